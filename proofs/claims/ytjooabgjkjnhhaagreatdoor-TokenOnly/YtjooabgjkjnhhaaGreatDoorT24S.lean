import Derived.Test.YtjooabgjkjnhhaaGreatDoorT24O
import Derived.Test.YtjooabgjkjnhhaaGreatDoorT24A

/-! The law's token: of, whole. (Printed by tools/gent24b.py.) -/
namespace Go.Proofs.YtjooabgjkjnhhaaGreatDoor
open Go.RowKit
set_option linter.unusedVariables false
set_option linter.unusedSimpArgs false
set_option maxRecDepth 100000

theorem OW.but {w W W2 : World} {T : List Value} {g : Nat} (h : OW w T W) (hs : SameBut g W W2) (hg : w.heap.size + 2 ≤ g) : OW w T W2 := ⟨hs.below h.bel (by omega), h.box.but hs (by omega), h.res.but hs (by omega)⟩
/-- Between two caveats of of. -/
structure O3 (w : World) (T : List Value) (ao : Option Addr) (c : Nat) (id : List By) (cs : List Cv) (H i : Nat) (W : World) : Prop where
  ow : OW w T W
  own : Own (w.heap.size + 2) W (.slice ao id.length c) id
  hH : w.heap.size + 2 ≤ H
  row : Row W H 52 ((cs.take i).flatMap cvC ++ zCvs (cs.length + 2 - i))
theorem O3.keep {w : World} {T : List Value} {ao : Option Addr} {c : Nat} {id : List By} {cs : List Cv} {H i : Nat} {W W2 : World} (h : O3 w T ao c id cs H i W) (hb : Below W.heap.size W W2) : O3 w T ao c id cs H i W2 := ⟨h.ow.keep hb, h.own.keep hb, h.hH, h.row.below hb h.row.lt⟩
theorem O3.push {w : World} {T : List Value} {ao : Option Addr} {c : Nat} {id : List By} {cs : List Cv} {H i : Nat} {W W2 : World} (h : O3 w T ao c id cs H i W) (d : Cv) (hd : cs[i]? = some d) (hr : Row W2 H 52 (((cs.take i).flatMap cvC ++ zCvs (cs.length + 2 - i)).take (i * 5) ++ cvC d ++ ((cs.take i).flatMap cvC ++ zCvs (cs.length + 2 - i)).drop (i * 5 + 5))) (hs : SameBut H W W2) : O3 w T ao c id cs H (i + 1) W2 := by
  have hil : i < cs.length := (List.getElem?_eq_some_iff.1 hd).1
  have hl : ((cs.take i).flatMap cvC).length = i * 5 := by rw [flC_len, List.length_take]; congr 1; omega
  refine ⟨h.ow.but hs h.hH, own_butr h.own hs h.row (by decide), h.hH, ?_⟩
  have e1 : ((cs.take i).flatMap cvC ++ zCvs (cs.length + 2 - i)).take (i * 5) = (cs.take i).flatMap cvC := by rw [← hl, List.take_left]
  have e2 : ((cs.take i).flatMap cvC ++ zCvs (cs.length + 2 - i)).drop (i * 5 + 5) = zCvs (cs.length + 2 - (i + 1)) := by
    rw [← List.drop_drop, ← hl, List.drop_left, show cs.length + 2 - i = cs.length + 2 - (i + 1) + 1 by omega, zCvs_succ]
    rfl
  rw [e1, e2] at hr
  rw [flat_take cs i d hd, List.flatMap_append]
  simpa using hr
set_option maxHeartbeats 2000000 in
theorem o3 (c0 c5 c6 c7 c8 c9 c10 c11 c12 c13 c14 c15 c16 c17 c18 c19 c20 c21 c22 c23 c24 c25 c26 c27 c28 c29 c30 c31 c32 c33 c34 c35 c36 c37 c38 c39 c40 c41 c42 c43 c44 c45 : Value) (w Wa : World) (t : Tk) (io : Option Addr) (ic : Nat) (lo : Option Addr) (lc : Nat) (ao : Option Addr) (c H : Nat) (hv : TkV w t io ic lo lc) (hm : t.cs.length ≤ 65536) (hO : O3 w (tkCells t io ic lo lc) ao c t.id t.cs H 0 Wa) : Code.wp Tryz.prog (dropS 3 (Tryz.f14.body.getD .skip)) (bodyPost Tryz.prog Tryz.f14 (OfP t w)) ⟨#[c0, .pointer (some ⟨w.heap.size, 0, none⟩), .pointer (some ⟨w.heap.size + 1, 0, none⟩), .slice ao t.id.length c, .slice (some ⟨H, 0, none⟩) 0 (t.cs.length + 2), c5, c6, c7, c8, c9, c10, c11, c12, c13, c14, c15, c16, c17, c18, c19, c20, c21, c22, c23, c24, c25, c26, c27, c28, c29, c30, c31, c32, c33, c34, c35, c36, c37, c38, c39, c40, c41, c42, c43, c44, c45], []⟩ Wa := by
  have NXT : Hid (∀ c0 c5 c6 c7 c8 c9 c10 c11 c12 c13 c14 c15 c16 c17 c18 c19 c20 c21 c22 c23 c24 c25 c26 c27 c28 c29 c30 c31 c32 c33 c34 c35 c36 c37 c38 c39 c40 c41 c42 c43 c44 c45 Wb, O3 w (tkCells t io ic lo lc) ao c t.id t.cs H t.cs.length Wb → Code.wp Tryz.prog (dropS 4 (Tryz.f14.body.getD .skip)) (bodyPost Tryz.prog Tryz.f14 (OfP t w)) ⟨#[c0, .pointer (some ⟨w.heap.size, 0, none⟩), .pointer (some ⟨w.heap.size + 1, 0, none⟩), .slice ao t.id.length c, .slice (some ⟨H, 0, none⟩) t.cs.length (t.cs.length + 2), c5, c6, c7, c8, c9, c10, c11, c12, c13, c14, c15, c16, c17, c18, c19, c20, c21, c22, c23, c24, c25, c26, c27, c28, c29, c30, c31, c32, c33, c34, c35, c36, c37, c38, c39, c40, c41, c42, c43, c44, c45], []⟩ Wb) := fun c0 c5 c6 c7 c8 c9 c10 c11 c12 c13 c14 c15 c16 c17 c18 c19 c20 c21 c22 c23 c24 c25 c26 c27 c28 c29 c30 c31 c32 c33 c34 c35 c36 c37 c38 c39 c40 c41 c42 c43 c44 c45 Wb h => o4 c0 c5 c6 c7 c8 c9 c10 c11 c12 c13 c14 c15 c16 c17 c18 c19 c20 c21 c22 c23 c24 c25 c26 c27 c28 c29 c30 c31 c32 c33 c34 c35 c36 c37 c38 c39 c40 c41 c42 c43 c44 c45 w Wb t io ic lo lc ao c H hv.tag hv.big h.ow h.own h.hH (by
    have := h.row
    rw [List.take_of_length_le (Nat.le_refl _), show t.cs.length + 2 - t.cs.length = 2 by omega] at this
    exact this)
  have HO : Hid (O3 w (tkCells t io ic lo lc) ao c t.id t.cs H 0 Wa) := hO
  have TV : Hid (TkV w t io ic lo lc) := hv
  have C2 : Hid (∀ W i, O3 w (tkCells t io ic lo lc) ao c t.id t.cs H i W → W.cell? ⟨w.heap.size, 2, none⟩ = some (.slice lo t.cs.length lc)) := fun W i h => h.ow.box.cell 2 _ rfl
  have x2 := C2.out Wa 0 HO.out
  obtain ⟨m, hmm⟩ : ∃ m, m = t.cs.length := ⟨_, rfl⟩
  have HM : Hid (m = t.cs.length) := hmm
  have HML : Hid (m ≤ 65536) := by show m ≤ _; omega
  rw [← hmm] at NXT x2 C2 ⊢
  clear hv hm hO hmm
  conv => arg 2; whnf
  refine wp_seq_k fun K hK => ?_
  have HKS : Hid _ := hK
  clear hK
  go_wp2
  go_loopw [4, 23] (fun lv iv wr => ∃ i : Nat, i ≤ m ∧ lv = .slice (some ⟨H, 0, none⟩) i (m + 2) ∧ iv = .int .i64 (i : Int) ∧ Hid (O3 w (tkCells t io ic lo lc) ao c t.id t.cs H i wr)) (fun _ iv _ => m - (intOf iv).toNat)
  case atStart => exact ⟨0, by omega, rfl, rfl, HO⟩
  case round =>
    clear HO x2
    obtain ⟨i, hi, rfl, rfl, HI⟩ := hrel
    by_cases hlt : i < m
    · have y0 : (0 : Int) ≤ (i : Int) := by omega
      have y1 : (i : Int) < (m : Int) := by omega
      have z1 : IntKind.i64.wrap ((i : Int) + 1) = (i : Int) + 1 := i64_in _ (by omega) (by have := HML.out; omega)
      obtain ⟨d, hd⟩ : ∃ d, t.cs[i]? = some d := ⟨_, List.getElem?_eq_getElem (by rw [← HM.out]; exact hlt)⟩
      obtain ⟨B, off, hlo, hB, hr⟩ := (TV.out.keep HI.out.ow.bel).cs i d hd
      subst hlo
      have HLT : Hid (i < m) := hlt
      have HDD : Hid (t.cs[i]? = some d) := hd
      obtain ⟨k, s, f, tt, z⟩ := d
      have hr' : wr.rangeAt B (off + i * 5) [.int .i64 k, .int .i64 s, .int .i64 f, .int .i64 tt, .int .u64 (z : Int)] := hr
      obtain ⟨w4, hw4⟩ : ∃ w4, w4 = wr.alloc (.cells #[.int .i64 k, .int .i64 s, .int .i64 f, .int .i64 tt, .int .u64 (z : Int)] 50) := ⟨_, rfl⟩
      have r4 : Row w4 wr.heap.size 50 [.int .i64 k, .int .i64 s, .int .i64 f, .int .i64 tt, .int .u64 (z : Int)] := by rw [hw4]; exact Row.at wr _ _ _ _ rfl rfl
      have HK4 : Hid (O3 w (tkCells t io ic (some ⟨B, off, none⟩) lc) ao c t.id t.cs H i w4) := by rw [hw4]; exact HI.out.keep ((Below.refl _ _).alloc (Nat.le_refl _) _)
      have F4 : Calls Tryz.prog 16 #[.agg #[.int .i64 k, .int .i64 s, .int .i64 f, .int .i64 tt, .int .u64 (z : Int)]] w4 fun e w' => e = .returned (.agg #[.int .i64 k, .int .i64 s, .int .i64 f, .int .i64 tt, .int .u64 (z : Int)]) ∧ Below w4.heap.size w4 w' := l24caveat_any ⟨k, s, f, tt, z⟩ w4
      clear hd hlt hi HI hr
      have CO : Hid (∀ v ∈ ([.int .i64 k, .int .i64 s, .int .i64 f, .int .i64 tt, .int .u64 (z : Int)] : List Value), v.oneCell' = true) := cvC_one ⟨k, s, f, tt, z⟩
      go_wp2_with (first
        | (have hz := hr'; clear hz; refine wpList_load_mid rfl 50 (.tmp 25) rfl B (off + i * 5) rfl [.int .i64 k, .int .i64 s, .int .i64 f, .int .i64 tt, .int .u64 (z : Int)] _ hr' Tryz.underlying50 rfl (by kernel_rfl) ?_; clear hr')
        | (have hz := hw4; clear hz; rw [← hw4]; clear hw4)
        | (have hz := r4; clear hz; refine wpList_load_Row rfl 50 (.tmp 6) rfl wr.heap.size 50 [.int .i64 k, .int .i64 s, .int .i64 f, .int .i64 tt, .int .u64 (z : Int)] r4 rfl _ Tryz.underlying50 rfl (by kernel_rfl) ?_; clear r4)
        | (go_at_call 16; refine F4.mono ?_; clear F4; rintro e w5 ⟨rfl, hb5⟩
           obtain ⟨w6, hw6⟩ : ∃ w6, w6 = w5.alloc (.cells #[.int .i64 k, .int .i64 s, .int .i64 f, .int .i64 tt, .int .u64 (z : Int)] 52) := ⟨_, rfl⟩
           have HK6 : Hid (O3 w (tkCells t io ic (some ⟨B, off, none⟩) lc) ao c t.id t.cs H i w6 ∧ Row w6 w5.heap.size 52 [.int .i64 k, .int .i64 s, .int .i64 f, .int .i64 tt, .int .u64 (z : Int)]) := (by rw [hw6]; exact ⟨(HK4.out.keep hb5).keep ((Below.refl _ _).alloc (Nat.le_refl _) _), Row.at w5 _ _ _ _ rfl rfl⟩)
           clear hb5 HK4)
        | (have hz := hw6; clear hz; rw [← hw6]; clear hw6)
        | (at_builtin; have hz := HK6; clear hz; refine wpList_append_cv rfl (.tmp 27) (.tmp 30) rfl H i (m + 2) _ rfl HK6.out.1.row (by rw [List.length_append, zCvs_len, flC_len, List.length_take]; have := HLT.out; have := HM.out; omega) (by have := HLT.out; omega) w5.heap.size [.int .i64 k, .int .i64 s, .int .i64 f, .int .i64 tt, .int .u64 (z : Int)] rfl HK6.out.2 rfl CO.out ?_
           intro w7 g1 g2
           have HN : Hid (O3 w (tkCells t io ic (some ⟨B, off, none⟩) lc) ao c t.id t.cs H (i + 1) w7) := HK6.out.1.push ⟨k, s, f, tt, z⟩ HDD.out g1 g2
           clear g1 g2 HK6))
      exact ⟨⟨i + 1, HLT.out, rfl, by go_num, HN⟩, by have := HLT.out; simp [intOf]; omega⟩
    · obtain rfl : i = m := by omega
      have y1 : ¬ ((i : Nat) : Int) < (i : Int) := by omega
      go_wp2
      refine HKS.out _ _ ?_
      exact NXT.out _ _ _ _ _ _ _ _ _ _ _ _ _ _ _ _ _ _ _ _ _ _ _ _ _ _ _ _ _ _ _ _ _ _ _ _ _ _ _ _ _ _ _ (by rw [HM.out]; rw [HM.out] at HI; exact HI.out)
end Go.Proofs.YtjooabgjkjnhhaaGreatDoor


/-! The law's token: of, whole. (Printed by tools/gent24b.py.) -/
namespace Go.Proofs.YtjooabgjkjnhhaaGreatDoor
open Go.RowKit
set_option linter.unusedVariables false
set_option linter.unusedSimpArgs false
set_option maxRecDepth 100000
structure OF1 (W1 : World) (S : Nat) (bo : Option Addr) (bc : Nat) (bs : List By) (L : Nat → Bool) (x7 x8 x9 x10 x11 x12 x13 x14 x3 : Value) (W : World) : Prop where
  x : BX W1 bs (L 4) (L 7) (L 8) x11 x14 x3 W
  p0 : L 0 = true → x7 = .pointer (some ⟨S, 1, none⟩)
  p1 : L 1 = true → x8 = .slice bo bs.length bc
  p2 : L 2 = true → x9 = .int .i64 (bs.length : Int)
  p3 : L 3 = true → x10 = .int .i64 ((bs.length : Int) + 3)
  p5 : L 5 = true → x12 = .pointer (some ⟨S, 1, none⟩)
  p6 : L 6 = true → x13 = .slice bo bs.length bc
section
variable {W1 : World} {S : Nat} {bo : Option Addr} {bc : Nat} {bs : List By} {L : Nat → Bool} {x7 x8 x9 x10 x11 x12 x13 x14 x3 : Value} {W W2 : World}
theorem OF1.s0 (h : OF1 W1 S bo bc bs L x7 x8 x9 x10 x11 x12 x13 x14 x3 W) : OF1 W1 S bo bc bs (upd L 0) (.pointer (some ⟨S, 1, none⟩)) x8 x9 x10 x11 x12 x13 x14 x3 W :=
  ⟨h.x, fun _ => rfl, h.p1, h.p2, h.p3, h.p5, h.p6⟩
theorem OF1.s1 (h : OF1 W1 S bo bc bs L x7 x8 x9 x10 x11 x12 x13 x14 x3 W) : OF1 W1 S bo bc bs (upd L 1) x7 (.slice bo bs.length bc) x9 x10 x11 x12 x13 x14 x3 W :=
  ⟨h.x, h.p0, fun _ => rfl, h.p2, h.p3, h.p5, h.p6⟩
theorem OF1.s4 (h : OF1 W1 S bo bc bs L x7 x8 x9 x10 x11 x12 x13 x14 x3 W) {v : Value} (hX : BX W1 bs ((upd L 4) 4) ((upd L 4) 7) ((upd L 4) 8) v x14 x3 W2) : OF1 W1 S bo bc bs (upd L 4) x7 x8 x9 x10 v x12 x13 x14 x3 W2 :=
  ⟨hX, h.p0, h.p1, h.p2, h.p3, h.p5, h.p6⟩
theorem OF1.s7 (h : OF1 W1 S bo bc bs L x7 x8 x9 x10 x11 x12 x13 x14 x3 W) {v : Value} (hX : BX W1 bs ((upd L 7) 4) ((upd L 7) 7) ((upd L 7) 8) x11 v x3 W2) : OF1 W1 S bo bc bs (upd L 7) x7 x8 x9 x10 x11 x12 x13 v x3 W2 :=
  ⟨hX, h.p0, h.p1, h.p2, h.p3, h.p5, h.p6⟩
theorem OF1.s8 (h : OF1 W1 S bo bc bs L x7 x8 x9 x10 x11 x12 x13 x14 x3 W) {v : Value} (hX : BX W1 bs ((upd L 8) 4) ((upd L 8) 7) ((upd L 8) 8) x11 x14 v W2) : OF1 W1 S bo bc bs (upd L 8) x7 x8 x9 x10 x11 x12 x13 x14 v W2 :=
  ⟨hX, h.p0, h.p1, h.p2, h.p3, h.p5, h.p6⟩
end
@[reducible] def IOF1 (W1 : World) (S : Nat) (bo : Option Addr) (bc : Nat) (bs : List By) (y0 y1 y2 y4 y5 y6 y15 y16 y17 y18 y19 y20 y21 y22 y23 y24 y25 y26 y27 y28 y29 y30 y31 y32 y33 y34 y35 y36 y37 y38 y39 y40 y41 y42 y43 y44 y45 : Value) : (Nat → Bool) → Act → World → Prop := fun L a W => ∃ x7 x8 x9 x10 x11 x12 x13 x14 x3, a = ⟨#[y0, y1, y2, x3, y4, y5, y6, x7, x8, x9, x10, x11, x12, x13, x14, y15, y16, y17, y18, y19, y20, y21, y22, y23, y24, y25, y26, y27, y28, y29, y30, y31, y32, y33, y34, y35, y36, y37, y38, y39, y40, y41, y42, y43, y44, y45], []⟩ ∧ OF1 W1 S bo bc bs L x7 x8 x9 x10 x11 x12 x13 x14 x3 W
set_option maxHeartbeats 2000000 in
theorem l24of_any (t : Tk) (io : Option Addr) (ic : Nat) (lo : Option Addr) (lc : Nat) (w : World) (hv : TkV w t io ic lo lc) (hm : t.cs.length ≤ 65536) : Calls Tryz.prog 14 #[.agg (tkCells t io ic lo lc).toArray] w (OfP t w) := by
  obtain ⟨T, hT⟩ : ∃ T, T = tkCells t io ic lo lc := ⟨_, rfl⟩
  obtain ⟨W1, hW1⟩ : ∃ W1, W1 = (w.alloc (.cells T.toArray 28)).alloc (.cells zTk.toArray 40) := ⟨_, rfl⟩
  have r1 : Row W1 w.heap.size 28 T := by rw [hW1]; exact (Row.at w _ _ _ _ rfl rfl).alloc _
  have r2 : Row W1 (w.heap.size + 1) 40 zTk := by rw [hW1]; exact Row.at _ _ _ _ _ (by simp) rfl
  have b1 : Below w.heap.size w W1 := by rw [hW1]; exact ((Below.refl _ _).alloc (Nat.le_refl _) _).alloc (by simp) _
  have s1 : W1.heap.size = w.heap.size + 2 := by rw [hW1]; simp
  have OW1 : Hid (OW w T W1) := ⟨b1, r1, r2⟩
  have G1 : T[1]? = some (.slice io t.id.length ic) := by rw [hT]; rfl
  have G2 : T[2]? = some (.slice lo t.cs.length lc) := by rw [hT]; rfl
  have HC : Hid (∀ W, Below W1.heap.size W1 W → W.cell? ⟨w.heap.size, 1, none⟩ = some (.slice io t.id.length ic)) := fun W h => (r1.below h r1.lt).cell 1 _ G1
  have HC2 : Hid (∀ W, Below W1.heap.size W1 W → W.cell? ⟨w.heap.size, 2, none⟩ = some (.slice lo t.cs.length lc)) := fun W h => (r1.below h r1.lt).cell 2 _ G2
  have HIB : Hid (∀ W, Below W1.heap.size W1 W → IsB W io t.id) := fun W h => (hv.keep (b1.trans (h.mono b1.size))).id
  have HNIL : Hid (io = none → ic = 0) := hv.inil
  have HBIG : Hid (t.id.length ≤ 140737488351232) := hv.big
  have HWR : Hid (IntKind.i64.wrap ((t.id.length : Int) + 3) = (t.id.length : Int) + 3) := i64_in _ (by omega) (by have := hv.big; omega)
  have NXT : Hid (∀ c0 c5 c6 c7 c8 c9 c10 c11 c12 c13 c14 c15 c16 c17 c18 c19 c20 c21 c22 c23 c24 c25 c26 c27 c28 c29 c30 c31 c32 c33 c34 c35 c36 c37 c38 c39 c40 c41 c42 c43 c44 c45 Wb ao c H, O3 w T ao c t.id t.cs H 0 Wb → Code.wp Tryz.prog (dropS 3 (Tryz.f14.body.getD .skip)) (bodyPost Tryz.prog Tryz.f14 (OfP t w)) ⟨#[c0, .pointer (some ⟨w.heap.size, 0, none⟩), .pointer (some ⟨w.heap.size + 1, 0, none⟩), .slice ao t.id.length c, .slice (some ⟨H, 0, none⟩) 0 (t.cs.length + 2), c5, c6, c7, c8, c9, c10, c11, c12, c13, c14, c15, c16, c17, c18, c19, c20, c21, c22, c23, c24, c25, c26, c27, c28, c29, c30, c31, c32, c33, c34, c35, c36, c37, c38, c39, c40, c41, c42, c43, c44, c45], []⟩ Wb) := fun c0 c5 c6 c7 c8 c9 c10 c11 c12 c13 c14 c15 c16 c17 c18 c19 c20 c21 c22 c23 c24 c25 c26 c27 c28 c29 c30 c31 c32 c33 c34 c35 c36 c37 c38 c39 c40 c41 c42 c43 c44 c45 Wb ao c H h => o3 c0 c5 c6 c7 c8 c9 c10 c11 c12 c13 c14 c15 c16 c17 c18 c19 c20 c21 c22 c23 c24 c25 c26 c27 c28 c29 c30 c31 c32 c33 c34 c35 c36 c37 c38 c39 c40 c41 c42 c43 c44 c45 w Wb t io ic lo lc ao c H hv hm (by rw [← hT]; exact h)
  have S1 : Hid (W1.heap.size = w.heap.size + 2) := s1
  have HM : Hid (t.cs.length ≤ 65536) := hm
  rw [← hT]
  clear hT hv hm r1 r2 b1 s1 G1 G2
  generalize hid : t.id = id at *
  generalize hcs : t.cs = cs at *
  go_enter Tryz.func14, Tryz.ntmps14
  refine wp_seq_k fun K hK => ?_
  have HKS : Hid _ := hK
  clear hK
  go_wp2
  refine HKS.out _ _ ?_
  clear HKS
  refine wp_at24 hW1 ?_
  clear hW1
  refine wp_seq_k fun K hK => ?_
  have HKS : Hid _ := hK
  clear hK
  refine wp_region_inv (IOF1 W1 w.heap.size io ic id _ _ _ _ _ _ _ _ _ _ _ _ _ _ _ _ _ _ _ _ _ _ _ _ _ _ _ _ _ _ _ _ _ _ _ _ _) (by kernel_rfl) (by kernel_rfl) ⟨_, _, _, _, _, _, _, _, _, rfl, ⟨BX.zero _ _ _ _ _, fun k => (by cases k), fun k => (by cases k), fun k => (by cases k), fun k => (by cases k), fun k => (by cases k), fun k => (by cases k)⟩⟩ ?_ ?_
  · refine .cons ?_ (.cons ?_ (.cons ?_ (.cons ?_ (.cons ?_ (.cons ?_ (.cons ?_ (.cons ?_ (.cons ?_ .nil))))))))
    all_goals (rintro L _ W ⟨x7, x8, x9, x10, x11, x12, x13, x14, x3, rfl, hI⟩ hL hd K hK)
    · rw [if_pos (by rfl)]
      go_simp
      exact hK.out _ _ ⟨_, _, _, _, _, _, _, _, _, rfl, { hI with p0 := fun _ => rfl }⟩
    · obtain rfl := hI.p0 (hd 0 (by decide))
      rw [if_pos (by rfl)]
      have hc := HC.out _ hI.x.bel
      go_simp
      exact hK.out _ _ ⟨_, _, _, _, _, _, _, _, _, rfl, { hI with p1 := fun _ => rfl }⟩
    · obtain rfl := hI.p1 (hd 1 (by decide))
      rw [if_pos (by rfl)]
      go_simp
      exact hK.out _ _ ⟨_, _, _, _, _, _, _, _, _, rfl, { hI with p2 := fun _ => rfl }⟩
    · obtain rfl := hI.p2 (hd 2 (by decide))
      rw [if_pos (by rfl)]
      have hw := HWR.out
      go_simp
      exact hK.out _ _ ⟨_, _, _, _, _, _, _, _, _, rfl, { hI with p3 := fun _ => rfl }⟩
    · obtain rfl := hI.p3 (hd 3 (by decide))
      refine step_make_room rfl _ (.tmp 10) rfl (id.length + 3) _ rfl rfl (by push_cast; rfl) (by have := HBIG.out; omega) ?_
      intro W2 ho4 hb4
      have hX := hI.x.s4 hL ho4 hb4
      exact hK.out _ _ ⟨_, _, _, _, _, _, _, _, _, rfl, { hI with x := hX }⟩
    · rw [if_pos (by rfl)]
      go_simp
      exact hK.out _ _ ⟨_, _, _, _, _, _, _, _, _, rfl, { hI with p5 := fun _ => rfl }⟩
    · obtain rfl := hI.p5 (hd 5 (by decide))
      rw [if_pos (by rfl)]
      have hc := HC.out _ hI.x.bel
      go_simp
      exact hK.out _ _ ⟨_, _, _, _, _, _, _, _, _, rfl, { hI with p6 := fun _ => rfl }⟩
    · obtain rfl := hI.p6 (hd 6 (by decide))
      obtain ⟨ao4, c4, e4, ho4⟩ := hI.x.p4 (hd 4 (by decide)) hL
      have ob := HIB.out _ hI.x.bel
      refine step_append_more rfl (.tmp 11) (.tmp 13) rfl _ _ ao4 0 c4 [] e4 rfl ho4 hI.x.bel io id.length ic id rfl rfl ob HNIL.out (by have := HBIG.out; omega) ?_
      intro ao7 c7 W2 ho7 hb7
      rw [Nat.zero_add] at ho7
      rw [Nat.zero_add]
      rw [List.nil_append] at ho7
      have hX := hI.x.s7 (hd 4 (by decide)) hL ho7 hb7
      exact hK.out _ _ ⟨_, _, _, _, _, _, _, _, _, rfl, { hI with x := hX }⟩
    · rw [if_pos (by rfl)]
      have hX := hI.x.s8 (hd 7 (by decide))
      go_simp
      exact hK.out _ _ ⟨_, _, _, _, _, _, _, _, _, rfl, { hI with x := hX }⟩
  · rintro L _ W hall ⟨x7, x8, x9, x10, x11, x12, x13, x14, x3, rfl, hI⟩
    obtain rfl := hI.p0 (hall 0 (by decide))
    obtain rfl := hI.p1 (hall 1 (by decide))
    obtain rfl := hI.p2 (hall 2 (by decide))
    obtain rfl := hI.p3 (hall 3 (by decide))
    obtain rfl := hI.p5 (hall 5 (by decide))
    obtain rfl := hI.p6 (hall 6 (by decide))
    have hXe := hI.x
    rw [hall 4 (by decide)] at hXe
    rw [hall 7 (by decide)] at hXe
    rw [hall 8 (by decide)] at hXe
    clear hI hall
    try dsimp only
    obtain ⟨ao, c, hx14, ho⟩ := hXe.p7 rfl
    have hx3 := hXe.p8 rfl
    subst hx3
    subst hx14
    have HB2 : Hid (Below W1.heap.size W1 W) := hXe.bel
    have HO2 : Hid (Own W1.heap.size W (.slice ao id.length c) id) := ho
    clear hXe ho
    refine HKS.out _ _ ?_
    clear HKS
    refine wp_seq_k fun K hK => ?_
    have HKS : Hid _ := hK
    clear hK
    have x2 := HC2.out W HB2.out
    have z2 : IntKind.i64.wrap ((cs.length : Int) + 2) = (cs.length : Int) + 2 := i64_in _ (by omega) (by have := HM.out; omega)
    go_wp2_with (refine wpList_make_cvs rfl _ (.tmp 18) rfl (cs.length + 2) _ rfl rfl (by push_cast; rfl) (by have := HM.out; omega) ?_; intro w3 hr3 hb3 hs3; have HN : Hid (O3 w T ao c id cs W.heap.size 0 w3) := ⟨(OW1.out.keep HB2.out).keep hb3, own_le (HO2.out.keep hb3) (by rw [S1.out]; exact Nat.le_refl _), by have := HB2.out.size; have := S1.out; omega, hr3⟩; clear hr3 hb3 hs3)
    refine HKS.out _ _ ?_
    exact NXT.out _ _ _ _ _ _ _ _ _ _ _ _ _ _ _ _ _ _ _ _ _ _ _ _ _ _ _ _ _ _ _ _ _ _ _ _ _ _ _ _ _ _ _ ao c W.heap.size HN.out
end Go.Proofs.YtjooabgjkjnhhaaGreatDoor


/-! The reference's token: Narrow, what it stands on. (Printed by tools/gent24b.py.) -/
namespace Go.Proofs.YtjooabgjkjnhhaaGreatDoor
open Go.RowKit
set_option linter.unusedVariables false
set_option linter.unusedSimpArgs false
set_option maxRecDepth 100000

/-- append of any row at a step of a drawn region, and what it leaves of other blocks. -/
theorem step_append_any {T e size bytes : Nat} {z : Value} (E : ElT T e size bytes z) {ops : Array Oper} {o : Oper} {a : Act} {w : World} {K : Act → World → Prop} {Q : Exit → Act → World → Prop} {X : Prop} (hw : Region.wanted o (yielded ops a.tmps) = true) (s x : Operand)
    (ho : o.op = .call { callee := .builtin .append, args := #[s, x], argTypes := #[T, T] })
    (N : Nat) (aoD : Option Addr) (nD capD : Nat) (vs : List Value) (hs : a.eval s = .slice aoD nD capD) (hown : w.ownsRow N e size (.slice aoD nD capD) nD vs) (hN : N ≤ w.heap.size)
    (ao : Option Addr) (n cap : Nat) (news : List Value) (hx : a.eval x = .slice ao n cap) (hn : news.length = n * size) (hb : IsL w ao news) (h1 : ∀ u ∈ news, u.oneCell' = true) (hnil : ao = none → cap = 0) (hm : nD + n ≤ maxLen) (hl : (nD + n) * bytes ≤ 140737488355328)
    (h : ∀ ao' cap' w', w'.ownsRow N e size (.slice ao' (nD + n) cap') (nD + n) (vs ++ news) → Below N w w' → w.heap.size ≤ w'.heap.size → (∀ k, k < w.heap.size → (∀ g, aoD = some ⟨g, 0, none⟩ → k ≠ g) → w'.heap[k]? = w.heap[k]?) → K (a.put o.dst (.slice ao' (nD + n) cap')) w') : if Region.wanted o (yielded ops a.tmps) = true then Oper.wp Tryz.prog o a w K Q else X := by
  rw [if_pos hw]
  obtain ⟨ao', cap', w', hrun, h2, h3, h4, h5⟩ := run_append_gen E N w w o.type aoD nD capD vs hown hN (Below.refl _ _) ao n cap news hn hb h1 hnil hm hl
  unfold Oper.wp execOp
  simp only [ho, resolve, invoke, builtin, Sem.run_bind, Sem.run_pure, Result.andThen_ok, List.map_toArray, List.map_cons, List.map_nil, hs, hx, hrun]
  exact h ao' cap' w' h2 h3 h4 h5
/-- The same at a plain step. -/
theorem wpList_append_any {T e size bytes : Nat} {z : Value} (E : ElT T e size bytes z) {ops : Array Oper} {rest : List Oper} {o : Oper} {a : Act} {w : World} {Q : Exit → Act → World → Prop} (hgd : o.guard = none) (s x : Operand)
    (ho : o.op = .call { callee := .builtin .append, args := #[s, x], argTypes := #[T, T] })
    (N : Nat) (aoD : Option Addr) (nD capD : Nat) (vs : List Value) (hs : a.eval s = .slice aoD nD capD) (hown : w.ownsRow N e size (.slice aoD nD capD) nD vs) (hN : N ≤ w.heap.size)
    (ao : Option Addr) (n cap : Nat) (news : List Value) (hx : a.eval x = .slice ao n cap) (hn : news.length = n * size) (hb : IsL w ao news) (h1 : ∀ u ∈ news, u.oneCell' = true) (hnil : ao = none → cap = 0) (hm : nD + n ≤ maxLen) (hl : (nD + n) * bytes ≤ 140737488355328)
    (h : ∀ ao' cap' w', w'.ownsRow N e size (.slice ao' (nD + n) cap') (nD + n) (vs ++ news) → Below N w w' → w.heap.size ≤ w'.heap.size → (∀ k, k < w.heap.size → (∀ g, aoD = some ⟨g, 0, none⟩ → k ≠ g) → w'.heap[k]? = w.heap[k]?) → wpList Tryz.prog ops Q rest (a.put o.dst (.slice ao' (nD + n) cap')) w') : wpList Tryz.prog ops Q (o :: rest) a w := by
  refine wpList_plain hgd fun K hK => ?_
  obtain ⟨ao', cap', w', hrun, h2, h3, h4, h5⟩ := run_append_gen E N w w o.type aoD nD capD vs hown hN (Below.refl _ _) ao n cap news hn hb h1 hnil hm hl
  unfold Oper.wp execOp
  simp only [ho, resolve, invoke, builtin, Sem.run_bind, Sem.run_pure, Result.andThen_ok, List.map_toArray, List.map_cons, List.map_nil, hs, hx, hrun]
  exact hK _ _ (h ao' cap' w' h2 h3 h4 h5)
/-- What an append to an own row leaves of a row of another type. -/
theorem row_still {N e size n : Nat} {W W2 : World} {ao : Option Addr} {c : Nat} {vs : List Value} (h : W.ownsRow N e size (.slice ao n c) n vs) (hk : ∀ k, k < W.heap.size → (∀ g, ao = some ⟨g, 0, none⟩ → k ≠ g) → W2.heap[k]? = W.heap[k]?) {g' t' : Nat} {cs : List Value} (hr : Row W g' t' cs) (ht : t' ≠ e) : Row W2 g' t' cs :=
  (hk g' hr.lt (fun q eq e2 => by
    rcases h.2 with ⟨e1, _⟩ | ⟨g2, c', cur, e1, _, hh, _⟩
    · injection e1 with e1; rw [e1] at eq; cases eq
    · injection e1 with e1 _ _
      rw [e1] at eq; injection eq with eq; injection eq with eq
      subst e2; subst eq
      have h2 : W.heap[g2]? = _ := hr
      rw [hh] at h2
      injection h2 with h2
      injection h2 with _ h2
      exact ht h2.symm)).trans hr
theorem own_still {N e size n N' e' size' n' : Nat} {W W2 : World} {ao : Option Addr} {c : Nat} {vs vs' : List Value} {v : Value} (h : W.ownsRow N e size (.slice ao n c) n vs) (hk : ∀ k, k < W.heap.size → (∀ g, ao = some ⟨g, 0, none⟩ → k ≠ g) → W2.heap[k]? = W.heap[k]?) (ho : W.ownsRow N' e' size' v n' vs') (ht : e' ≠ e) : W2.ownsRow N' e' size' v n' vs' := by
  refine ⟨ho.1, ?_⟩
  rcases ho.2 with h1 | ⟨g2, c', cur, e1, hg2, hh, hr⟩
  · exact .inl h1
  · refine .inr ⟨g2, c', cur, e1, hg2, ?_, hr⟩
    have : Row W g2 e' cur.toList := by show W.heap[g2]? = _; rw [hh]
    have := row_still h hk this ht
    exact (this : W2.heap[g2]? = _)
theorem isB_isL {w : World} {ao : Option Addr} {bs : List By} (h : IsB w ao bs) : IsL w ao (bs.map B8) := by
  rcases h with rfl | ⟨B, off, e, hc⟩
  · exact .inl rfl
  · refine .inr ⟨B, off, e, fun j v hv => ?_⟩
    rw [List.getElem?_map] at hv
    obtain ⟨x, hx, rfl⟩ := Option.map_eq_some_iff.1 hv
    exact hc j x hx
theorem cvs_isL {w : World} {lo : Option Addr} {l : List Cv} (h : CvsIn w lo l) : IsL w lo (l.flatMap cvC) := by
  cases l with
  | nil => exact .inl rfl
  | cons c r =>
    obtain ⟨B, off, e, _, _⟩ := h 0 c rfl
    refine .inr ⟨B, off, e, fun j v hv => ?_⟩
    have hj : j < ((c :: r).flatMap cvC).length := (List.getElem?_eq_some_iff.1 hv).1
    rw [flC_len] at hj
    obtain ⟨d, hd⟩ : ∃ d, (c :: r)[j / 5]? = some d := ⟨_, List.getElem?_eq_getElem (by omega)⟩
    obtain ⟨B2, off2, e2, _, hr⟩ := h (j / 5) d hd
    rw [e] at e2
    injection e2 with e2
    injection e2 with e3 e4
    subst e3; subst e4
    obtain ⟨u, hu⟩ : ∃ u, (cvC d)[j % 5]? = some u := ⟨_, List.getElem?_eq_getElem (by simp [cvC]; omega)⟩
    have h1 := flC_at (c :: r) (j / 5) d hd (j % 5) u hu
    rw [show j / 5 * 5 + j % 5 = j by omega, hv] at h1
    injection h1 with h1
    subst h1
    have := hr (j % 5) v hu
    rw [Nat.add_assoc, show j / 5 * 5 + j % 5 = j by omega] at this
    exact this
theorem flC_one (l : List Cv) : ∀ v ∈ l.flatMap cvC, v.oneCell' = true := by
  intro v hv
  obtain ⟨c, _, hc⟩ := List.mem_flatMap.1 hv
  exact cvC_one c v hc
/-- While a token with a caveat more is put together: ID appended (5), caveat made (8), appended (9), built (10), a box (11), laid (12). -/
structure N8 (N : Nat) (W0 : World) (key : Int) (id : List By) (E1 : Nat) (l7 : Option Addr) (lc7 : Nat) (cs : List Cv) (c : Cv) (q5 q8 q9 q10 q11 q12 : Bool) (x29 x32 x33 x34 x8 : Value) (W : World) : Prop where
  c9 : q9 = true → q8 = true
  c10 : q10 = true → q5 = true ∧ q9 = true
  c12 : q12 = true → q10 = true ∧ q11 = true
  bel : Below N W0 W
  sz : N ≤ W.heap.size
  id0 : q5 = false → W.ownsRow N 5 1 (.slice (some ⟨E1, 0, none⟩) 0 0) 0 []
  p5 : q5 = true → ∃ ao c', x29 = .slice ao id.length c' ∧ W.ownsRow N 5 1 (.slice ao id.length c') id.length (id.map B8)
  l0 : q9 = false → W.ownsRow N 50 5 (.slice l7 cs.length lc7) cs.length (cs.flatMap cvC)
  p8 : q8 = true → q9 = false → ∃ G, x32 = .slice (some ⟨G, 0, none⟩) 1 1 ∧ Row W G 50 (cvC c)
  p9 : q9 = true → ∃ ao c', x33 = .slice ao (cs.length + 1) c' ∧ W.ownsRow N 50 5 (.slice ao (cs.length + 1) c') (cs.length + 1) (cs.flatMap cvC ++ cvC c)
  p10 : q10 = true → ∃ io2 ic2 lo2 lc2, x29 = .slice io2 id.length ic2 ∧ x33 = .slice lo2 (cs.length + 1) lc2 ∧ x34 = .agg (tkC key io2 id.length ic2 lo2 (cs.length + 1) lc2 (List.replicate 32 0)).toArray
  p11 : q11 = true → ∃ g8, x8 = .pointer (some ⟨g8, 0, none⟩) ∧ N ≤ g8 ∧ (q12 = false → Row W g8 28 zTk) ∧ (q12 = true → ∀ io2 ic2 lo2 lc2, x29 = .slice io2 id.length ic2 → x33 = .slice lo2 (cs.length + 1) lc2 → Row W g8 28 (tkC key io2 id.length ic2 lo2 (cs.length + 1) lc2 (List.replicate 32 0)))
section
variable {N : Nat} {W0 : World} {key : Int} {id : List By} {E1 : Nat} {l7 : Option Addr} {lc7 : Nat} {cs : List Cv} {c : Cv} {q5 q8 q9 q10 q11 q12 : Bool} {x29 x32 x33 x34 x8 : Value} {W W2 : World}
theorem N8.keep (h : N8 N W0 key id E1 l7 lc7 cs c q5 q8 q9 q10 q11 q12 x29 x32 x33 x34 x8 W) (hb : Below W.heap.size W W2) : N8 N W0 key id E1 l7 lc7 cs c q5 q8 q9 q10 q11 q12 x29 x32 x33 x34 x8 W2 :=
  ⟨h.c9, h.c10, h.c12, h.bel.trans (hb.mono h.sz), Nat.le_trans h.sz hb.size, fun e => owB_keep (h.id0 e) hb, fun e => let ⟨ao, c', a, b⟩ := h.p5 e; ⟨ao, c', a, owB_keep b hb⟩, fun e => owB_keep (h.l0 e) hb, fun e f => let ⟨G, a, b⟩ := h.p8 e f; ⟨G, a, b.below hb b.lt⟩, fun e => let ⟨ao, c', a, b⟩ := h.p9 e; ⟨ao, c', a, owB_keep b hb⟩, h.p10, fun e => let ⟨g, a, b, r1, r2⟩ := h.p11 e; ⟨g, a, b, fun f => (r1 f).below hb (r1 f).lt, fun f i1 i2 i3 i4 u1 u2 => (r2 f i1 i2 i3 i4 u1 u2).below hb (r2 f i1 i2 i3 i4 u1 u2).lt⟩⟩
theorem N8.s5 (h : N8 N W0 key id E1 l7 lc7 cs c q5 q8 q9 q10 q11 q12 x29 x32 x33 x34 x8 W) (e5 : q5 = false) {ao : Option Addr} {c' : Nat} (ho : W2.ownsRow N 5 1 (.slice ao id.length c') id.length (id.map B8)) (hb : Below N W W2) (hz : W.heap.size ≤ W2.heap.size) (hk : ∀ k, k < W.heap.size → (∀ g, (some ⟨E1, 0, none⟩ : Option Addr) = some ⟨g, 0, none⟩ → k ≠ g) → W2.heap[k]? = W.heap[k]?) :
    N8 N W0 key id E1 l7 lc7 cs c true q8 q9 q10 q11 q12 (.slice ao id.length c') x32 x33 x34 x8 W2 := by
  have e10 : q10 = false := ff24 (fun e => (h.c10 e).1) e5
  have e12 : q12 = false := ff24 (fun e => (h.c12 e).1) e10
  subst e10 e12
  have o := h.id0 e5
  exact ⟨h.c9, fun e => (by cases e), fun e => (by cases e), h.bel.trans hb, Nat.le_trans h.sz hz, fun e => (by cases e), fun _ => ⟨ao, c', rfl, ho⟩, fun e => own_still o hk (h.l0 e) (by decide), fun e f => let ⟨G, a, b⟩ := h.p8 e f; ⟨G, a, row_still o hk b (by decide)⟩, fun e => let ⟨ao, c', a, b⟩ := h.p9 e; ⟨ao, c', a, own_still o hk b (by decide)⟩, fun e => (by cases e), fun e => let ⟨g, a, b, r1, _⟩ := h.p11 e; ⟨g, a, b, fun f => row_still o hk (r1 f) (by decide), fun f => (by cases f)⟩⟩
theorem N8.s8 (h : N8 N W0 key id E1 l7 lc7 cs c q5 q8 q9 q10 q11 q12 x29 x32 x33 x34 x8 W) (e8 : q8 = false) : N8 N W0 key id E1 l7 lc7 cs c q5 true q9 q10 q11 q12 x29 (.slice (some ⟨W.heap.size, 0, none⟩) 1 1) x33 x34 x8 (W.alloc (.cells (cvC c).toArray 50)) := by
  have e9 : q9 = false := ff24 h.c9 e8
  have e10 : q10 = false := ff24 (fun e => (h.c10 e).2) e9
  have e12 : q12 = false := ff24 (fun e => (h.c12 e).1) e10
  subst e9 e10 e12
  have k := h.keep (W2 := W.alloc (.cells (cvC c).toArray 50)) ((Below.refl _ _).alloc (Nat.le_refl _) _)
  exact ⟨fun e => (by cases e), k.c10, k.c12, k.bel, k.sz, k.id0, k.p5, k.l0, fun _ _ => ⟨_, rfl, Row.at W _ _ _ _ rfl rfl⟩, k.p9, k.p10, k.p11⟩
theorem N8.s9 (h : N8 N W0 key id E1 l7 lc7 cs c q5 q8 q9 q10 q11 q12 x29 x32 x33 x34 x8 W) (e8 : q8 = true) (e9 : q9 = false) {ao : Option Addr} {c' : Nat} (ho : W2.ownsRow N 50 5 (.slice ao (cs.length + 1) c') (cs.length + 1) (cs.flatMap cvC ++ cvC c)) (hb : Below N W W2) (hz : W.heap.size ≤ W2.heap.size) (hk : ∀ k, k < W.heap.size → (∀ g, l7 = some ⟨g, 0, none⟩ → k ≠ g) → W2.heap[k]? = W.heap[k]?) :
    N8 N W0 key id E1 l7 lc7 cs c q5 q8 true q10 q11 q12 x29 x32 (.slice ao (cs.length + 1) c') x34 x8 W2 := by
  have e10 : q10 = false := ff24 (fun e => (h.c10 e).2) e9
  have e12 : q12 = false := ff24 (fun e => (h.c12 e).1) e10
  subst e10 e12
  have o := h.l0 e9
  exact ⟨fun _ => e8, fun e => (by cases e), fun e => (by cases e), h.bel.trans hb, Nat.le_trans h.sz hz, fun e => own_still o hk (h.id0 e) (by decide), fun e => let ⟨ao, c', a, b⟩ := h.p5 e; ⟨ao, c', a, own_still o hk b (by decide)⟩, fun e => (by cases e), fun _ f => (by cases f), fun _ => ⟨ao, c', rfl, ho⟩, fun e => (by cases e), fun e => let ⟨g, a, b, r1, _⟩ := h.p11 e; ⟨g, a, b, fun f => row_still o hk (r1 f) (by decide), fun f => (by cases f)⟩⟩
theorem N8.s10 (h : N8 N W0 key id E1 l7 lc7 cs c q5 q8 q9 q10 q11 q12 x29 x32 x33 x34 x8 W) (e5 : q5 = true) (e9 : q9 = true) (e10 : q10 = false) {io2 : Option Addr} {ic2 : Nat} {lo2 : Option Addr} {lc2 : Nat} (u1 : x29 = .slice io2 id.length ic2) (u2 : x33 = .slice lo2 (cs.length + 1) lc2) : N8 N W0 key id E1 l7 lc7 cs c q5 q8 q9 true q11 q12 x29 x32 x33 (.agg (tkC key io2 id.length ic2 lo2 (cs.length + 1) lc2 (List.replicate 32 0)).toArray) x8 W := by
  have e12 : q12 = false := ff24 (fun e => (h.c12 e).1) e10
  subst e12
  exact ⟨h.c9, fun _ => ⟨e5, e9⟩, fun e => (by cases e), h.bel, h.sz, h.id0, h.p5, h.l0, h.p8, h.p9, fun _ => ⟨_, _, _, _, u1, u2, rfl⟩, h.p11⟩
theorem N8.s11 (h : N8 N W0 key id E1 l7 lc7 cs c q5 q8 q9 q10 q11 q12 x29 x32 x33 x34 x8 W) (e11 : q11 = false) : N8 N W0 key id E1 l7 lc7 cs c q5 q8 q9 q10 true q12 x29 x32 x33 x34 (.pointer (some ⟨W.heap.size, 0, none⟩)) (W.alloc (.cells zTk.toArray 28)) := by
  have e12 : q12 = false := ff24 (fun e => (h.c12 e).2) e11
  subst e12
  have k := h.keep (W2 := W.alloc (.cells zTk.toArray 28)) ((Below.refl _ _).alloc (Nat.le_refl _) _)
  exact ⟨k.c9, k.c10, fun e => (by cases e), k.bel, k.sz, k.id0, k.p5, k.l0, k.p8, k.p9, k.p10, fun _ => ⟨_, rfl, h.sz, fun _ => Row.at W _ _ _ _ rfl rfl, fun f => (by cases f)⟩⟩
theorem N8.s12 (h : N8 N W0 key id E1 l7 lc7 cs c q5 q8 q9 q10 q11 q12 x29 x32 x33 x34 x8 W) (e10 : q10 = true) (e11 : q11 = true) (e12 : q12 = false) {io2 : Option Addr} {ic2 : Nat} {lo2 : Option Addr} {lc2 g8 : Nat} (u1 : x29 = .slice io2 id.length ic2) (u2 : x33 = .slice lo2 (cs.length + 1) lc2) (u3 : x8 = .pointer (some ⟨g8, 0, none⟩)) (hg : N ≤ g8) (hr0 : Row W g8 28 zTk) (hr : Row W2 g8 28 (tkC key io2 id.length ic2 lo2 (cs.length + 1) lc2 (List.replicate 32 0))) (hs : SameBut g8 W W2) : N8 N W0 key id E1 l7 lc7 cs c q5 q8 q9 q10 q11 true x29 x32 x33 x34 x8 W2 := by
  obtain ⟨e5, e9⟩ := h.c10 e10
  refine ⟨h.c9, h.c10, fun _ => ⟨e10, e11⟩, hs.below h.bel hg, by rw [hs.size]; exact h.sz, fun e => (by rw [e5] at e; cases e), fun e => let ⟨ao, c', a, b⟩ := h.p5 e; ⟨ao, c', a, owB_but b hs hr0 (by decide)⟩, fun e => (by rw [e9] at e; cases e), fun _ f => (by rw [e9] at f; cases f), fun e => let ⟨ao, c', a, b⟩ := h.p9 e; ⟨ao, c', a, owB_but b hs hr0 (by decide)⟩, h.p10, fun _ => ⟨g8, u3, hg, fun f => (by cases f), fun _ i1 i2 i3 i4 v1 v2 => ?_⟩⟩
  rw [u1] at v1; rw [u2] at v2
  injection v1 with a1 _ a3
  injection v2 with b1 _ b3
  subst a1; subst a3; subst b1; subst b3
  exact hr
end
end Go.Proofs.YtjooabgjkjnhhaaGreatDoor
