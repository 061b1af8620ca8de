
import Derived.Test.YtjooabgjkjnhhaaDoorT24O
/-! The law's token: of, whole. (Printed by tools/gent24b.py.) -/
namespace Go.Proofs.YtjooabgjkjnhhaaDoor
open Go.RowKit
set_option linter.unusedVariables false
set_option linter.unusedSimpArgs false
set_option maxRecDepth 100000

theorem OW.but {w W W2 : World} {T : List Value} {g : Nat} (h : OW w T W) (hs : SameBut g W W2) (hg : w.heap.size + 2 ≤ g) : OW w T W2 := ⟨hs.below h.bel (by omega), h.box.but hs (by omega), h.res.but hs (by omega)⟩
/-- Between two caveats of of. -/
structure O3 (w : World) (T : List Value) (ao : Option Addr) (c : Nat) (id : List By) (cs : List Cv) (H i : Nat) (W : World) : Prop where
  ow : OW w T W
  own : Own (w.heap.size + 2) W (.slice ao id.length c) id
  hH : w.heap.size + 2 ≤ H
  row : Row W H 64 ((cs.take i).flatMap cvC ++ zCvs (cs.length + 2 - i))
theorem O3.keep {w : World} {T : List Value} {ao : Option Addr} {c : Nat} {id : List By} {cs : List Cv} {H i : Nat} {W W2 : World} (h : O3 w T ao c id cs H i W) (hb : Below W.heap.size W W2) : O3 w T ao c id cs H i W2 := ⟨h.ow.keep hb, h.own.keep hb, h.hH, h.row.below hb h.row.lt⟩
theorem O3.push {w : World} {T : List Value} {ao : Option Addr} {c : Nat} {id : List By} {cs : List Cv} {H i : Nat} {W W2 : World} (h : O3 w T ao c id cs H i W) (d : Cv) (hd : cs[i]? = some d) (hr : Row W2 H 64 (((cs.take i).flatMap cvC ++ zCvs (cs.length + 2 - i)).take (i * 5) ++ cvC d ++ ((cs.take i).flatMap cvC ++ zCvs (cs.length + 2 - i)).drop (i * 5 + 5))) (hs : SameBut H W W2) : O3 w T ao c id cs H (i + 1) W2 := by
  have hil : i < cs.length := (List.getElem?_eq_some_iff.1 hd).1
  have hl : ((cs.take i).flatMap cvC).length = i * 5 := by rw [flC_len, List.length_take]; congr 1; omega
  refine ⟨h.ow.but hs h.hH, own_butr h.own hs h.row (by decide), h.hH, ?_⟩
  have e1 : ((cs.take i).flatMap cvC ++ zCvs (cs.length + 2 - i)).take (i * 5) = (cs.take i).flatMap cvC := by rw [← hl, List.take_left]
  have e2 : ((cs.take i).flatMap cvC ++ zCvs (cs.length + 2 - i)).drop (i * 5 + 5) = zCvs (cs.length + 2 - (i + 1)) := by
    rw [← List.drop_drop, ← hl, List.drop_left, show cs.length + 2 - i = cs.length + 2 - (i + 1) + 1 by omega, zCvs_succ]
    rfl
  rw [e1, e2] at hr
  rw [flat_take cs i d hd, List.flatMap_append]
  simpa using hr
set_option maxHeartbeats 2000000 in
theorem o3 (c0 c5 c6 c7 c8 c9 c10 c11 c12 c13 c14 c15 c16 c17 c18 c19 c20 c21 c22 c23 c24 c25 c26 c27 c28 c29 c30 c31 c32 c33 c34 c35 c36 c37 c38 c39 c40 c41 c42 c43 c44 c45 : Value) (w Wa : World) (t : Tk) (io : Option Addr) (ic : Nat) (lo : Option Addr) (lc : Nat) (ao : Option Addr) (c H : Nat) (hv : TkV w t io ic lo lc) (hm : t.cs.length ≤ 65536) (hO : O3 w (tkCells t io ic lo lc) ao c t.id t.cs H 0 Wa) : Code.wp Tryd.prog (dropS 3 (Tryd.f9.body.getD .skip)) (bodyPost Tryd.prog Tryd.f9 (OfP t w)) ⟨#[c0, .pointer (some ⟨w.heap.size, 0, none⟩), .pointer (some ⟨w.heap.size + 1, 0, none⟩), .slice ao t.id.length c, .slice (some ⟨H, 0, none⟩) 0 (t.cs.length + 2), c5, c6, c7, c8, c9, c10, c11, c12, c13, c14, c15, c16, c17, c18, c19, c20, c21, c22, c23, c24, c25, c26, c27, c28, c29, c30, c31, c32, c33, c34, c35, c36, c37, c38, c39, c40, c41, c42, c43, c44, c45], []⟩ Wa := by
  have NXT : Hid (∀ c0 c5 c6 c7 c8 c9 c10 c11 c12 c13 c14 c15 c16 c17 c18 c19 c20 c21 c22 c23 c24 c25 c26 c27 c28 c29 c30 c31 c32 c33 c34 c35 c36 c37 c38 c39 c40 c41 c42 c43 c44 c45 Wb, O3 w (tkCells t io ic lo lc) ao c t.id t.cs H t.cs.length Wb → Code.wp Tryd.prog (dropS 4 (Tryd.f9.body.getD .skip)) (bodyPost Tryd.prog Tryd.f9 (OfP t w)) ⟨#[c0, .pointer (some ⟨w.heap.size, 0, none⟩), .pointer (some ⟨w.heap.size + 1, 0, none⟩), .slice ao t.id.length c, .slice (some ⟨H, 0, none⟩) t.cs.length (t.cs.length + 2), c5, c6, c7, c8, c9, c10, c11, c12, c13, c14, c15, c16, c17, c18, c19, c20, c21, c22, c23, c24, c25, c26, c27, c28, c29, c30, c31, c32, c33, c34, c35, c36, c37, c38, c39, c40, c41, c42, c43, c44, c45], []⟩ Wb) := fun c0 c5 c6 c7 c8 c9 c10 c11 c12 c13 c14 c15 c16 c17 c18 c19 c20 c21 c22 c23 c24 c25 c26 c27 c28 c29 c30 c31 c32 c33 c34 c35 c36 c37 c38 c39 c40 c41 c42 c43 c44 c45 Wb h => o4 c0 c5 c6 c7 c8 c9 c10 c11 c12 c13 c14 c15 c16 c17 c18 c19 c20 c21 c22 c23 c24 c25 c26 c27 c28 c29 c30 c31 c32 c33 c34 c35 c36 c37 c38 c39 c40 c41 c42 c43 c44 c45 w Wb t io ic lo lc ao c H hv.tag hv.big h.ow h.own h.hH (by
    have := h.row
    rw [List.take_of_length_le (Nat.le_refl _), show t.cs.length + 2 - t.cs.length = 2 by omega] at this
    exact this)
  have HO : Hid (O3 w (tkCells t io ic lo lc) ao c t.id t.cs H 0 Wa) := hO
  have TV : Hid (TkV w t io ic lo lc) := hv
  have C2 : Hid (∀ W i, O3 w (tkCells t io ic lo lc) ao c t.id t.cs H i W → W.cell? ⟨w.heap.size, 2, none⟩ = some (.slice lo t.cs.length lc)) := fun W i h => h.ow.box.cell 2 _ rfl
  have x2 := C2.out Wa 0 HO.out
  obtain ⟨m, hmm⟩ : ∃ m, m = t.cs.length := ⟨_, rfl⟩
  have HM : Hid (m = t.cs.length) := hmm
  have HML : Hid (m ≤ 65536) := by show m ≤ _; omega
  rw [← hmm] at NXT x2 C2 ⊢
  clear hv hm hO hmm
  conv => arg 2; whnf
  refine wp_seq_k fun K hK => ?_
  have HKS : Hid _ := hK
  clear hK
  go_wp2
  go_loopw [4, 23] (fun lv iv wr => ∃ i : Nat, i ≤ m ∧ lv = .slice (some ⟨H, 0, none⟩) i (m + 2) ∧ iv = .int .i64 (i : Int) ∧ Hid (O3 w (tkCells t io ic lo lc) ao c t.id t.cs H i wr)) (fun _ iv _ => m - (intOf iv).toNat)
  case atStart => exact ⟨0, by omega, rfl, rfl, HO⟩
  case round =>
    clear HO x2
    obtain ⟨i, hi, rfl, rfl, HI⟩ := hrel
    by_cases hlt : i < m
    · have y0 : (0 : Int) ≤ (i : Int) := by omega
      have y1 : (i : Int) < (m : Int) := by omega
      have z1 : IntKind.i64.wrap ((i : Int) + 1) = (i : Int) + 1 := i64_in _ (by omega) (by have := HML.out; omega)
      obtain ⟨d, hd⟩ : ∃ d, t.cs[i]? = some d := ⟨_, List.getElem?_eq_getElem (by rw [← HM.out]; exact hlt)⟩
      obtain ⟨B, off, hlo, hB, hr⟩ := (TV.out.keep HI.out.ow.bel).cs i d hd
      subst hlo
      have HLT : Hid (i < m) := hlt
      have HDD : Hid (t.cs[i]? = some d) := hd
      obtain ⟨k, s, f, tt, z⟩ := d
      have hr' : wr.rangeAt B (off + i * 5) [.int .i64 k, .int .i64 s, .int .i64 f, .int .i64 tt, .int .u64 (z : Int)] := hr
      obtain ⟨w4, hw4⟩ : ∃ w4, w4 = wr.alloc (.cells #[.int .i64 k, .int .i64 s, .int .i64 f, .int .i64 tt, .int .u64 (z : Int)] 72) := ⟨_, rfl⟩
      have r4 : Row w4 wr.heap.size 72 [.int .i64 k, .int .i64 s, .int .i64 f, .int .i64 tt, .int .u64 (z : Int)] := by rw [hw4]; exact Row.at wr _ _ _ _ rfl rfl
      have HK4 : Hid (O3 w (tkCells t io ic (some ⟨B, off, none⟩) lc) ao c t.id t.cs H i w4) := by rw [hw4]; exact HI.out.keep ((Below.refl _ _).alloc (Nat.le_refl _) _)
      have F4 : Calls Tryd.prog 21 #[.agg #[.int .i64 k, .int .i64 s, .int .i64 f, .int .i64 tt, .int .u64 (z : Int)]] w4 fun e w' => e = .returned (.agg #[.int .i64 k, .int .i64 s, .int .i64 f, .int .i64 tt, .int .u64 (z : Int)]) ∧ Below w4.heap.size w4 w' := l24caveat_any ⟨k, s, f, tt, z⟩ w4
      clear hd hlt hi HI hr
      have CO : Hid (∀ v ∈ ([.int .i64 k, .int .i64 s, .int .i64 f, .int .i64 tt, .int .u64 (z : Int)] : List Value), v.oneCell' = true) := cvC_one ⟨k, s, f, tt, z⟩
      go_wp2_with (first
        | (have hz := hr'; clear hz; refine wpList_load_mid rfl 72 (.tmp 25) rfl B (off + i * 5) rfl [.int .i64 k, .int .i64 s, .int .i64 f, .int .i64 tt, .int .u64 (z : Int)] _ hr' Tryd.underlying72 rfl (by kernel_rfl) ?_; clear hr')
        | (have hz := hw4; clear hz; rw [← hw4]; clear hw4)
        | (have hz := r4; clear hz; refine wpList_load_Row rfl 72 (.tmp 6) rfl wr.heap.size 72 [.int .i64 k, .int .i64 s, .int .i64 f, .int .i64 tt, .int .u64 (z : Int)] r4 rfl _ Tryd.underlying72 rfl (by kernel_rfl) ?_; clear r4)
        | (go_at_call 21; refine F4.mono ?_; clear F4; rintro e w5 ⟨rfl, hb5⟩
           obtain ⟨w6, hw6⟩ : ∃ w6, w6 = w5.alloc (.cells #[.int .i64 k, .int .i64 s, .int .i64 f, .int .i64 tt, .int .u64 (z : Int)] 64) := ⟨_, rfl⟩
           have HK6 : Hid (O3 w (tkCells t io ic (some ⟨B, off, none⟩) lc) ao c t.id t.cs H i w6 ∧ Row w6 w5.heap.size 64 [.int .i64 k, .int .i64 s, .int .i64 f, .int .i64 tt, .int .u64 (z : Int)]) := (by rw [hw6]; exact ⟨(HK4.out.keep hb5).keep ((Below.refl _ _).alloc (Nat.le_refl _) _), Row.at w5 _ _ _ _ rfl rfl⟩)
           clear hb5 HK4)
        | (have hz := hw6; clear hz; rw [← hw6]; clear hw6)
        | (at_builtin; have hz := HK6; clear hz; refine wpList_append_cv rfl (.tmp 27) (.tmp 30) rfl H i (m + 2) _ rfl HK6.out.1.row (by rw [List.length_append, zCvs_len, flC_len, List.length_take]; have := HLT.out; have := HM.out; omega) (by have := HLT.out; omega) w5.heap.size [.int .i64 k, .int .i64 s, .int .i64 f, .int .i64 tt, .int .u64 (z : Int)] rfl HK6.out.2 rfl CO.out ?_
           intro w7 g1 g2
           have HN : Hid (O3 w (tkCells t io ic (some ⟨B, off, none⟩) lc) ao c t.id t.cs H (i + 1) w7) := HK6.out.1.push ⟨k, s, f, tt, z⟩ HDD.out g1 g2
           clear g1 g2 HK6))
      exact ⟨⟨i + 1, HLT.out, rfl, by go_num, HN⟩, by have := HLT.out; simp [intOf]; omega⟩
    · obtain rfl : i = m := by omega
      have y1 : ¬ ((i : Nat) : Int) < (i : Int) := by omega
      go_wp2
      refine HKS.out _ _ ?_
      exact NXT.out _ _ _ _ _ _ _ _ _ _ _ _ _ _ _ _ _ _ _ _ _ _ _ _ _ _ _ _ _ _ _ _ _ _ _ _ _ _ _ _ _ _ _ (by rw [HM.out]; rw [HM.out] at HI; exact HI.out)
end Go.Proofs.YtjooabgjkjnhhaaDoor
