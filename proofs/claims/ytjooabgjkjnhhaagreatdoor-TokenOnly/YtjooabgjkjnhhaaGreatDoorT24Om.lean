
import Derived.Test.YtjooabgjkjnhhaaGreatDoorT24Ol
/-! TokenOnly: its beginning. (Printed by tools/gent24c.py.) -/
namespace Go.Proofs.YtjooabgjkjnhhaaGreatDoor
open Go.RowKit
set_option linter.unusedVariables false
set_option linter.unusedSimpArgs false
set_option maxRecDepth 100000

set_option maxHeartbeats 4000000 in
theorem only24_any (C : Tok) (w : World) (hg : HG w) (so : Option Addr) (sc : Nat) (s : List By) (hs : IsB w so s) (hsc : s.length ≤ sc) (hsn : so = none → sc = 0) (hsb : s.length ≤ 140737488351232)
    (io : Option Addr) (ic : Nat) (id : List By) (hi : IsB w io id) (hic : id.length ≤ ic) (hin : io = none → ic = 0) (hib : id.length ≤ 140737488351232)
    (jo : Option Addr) (jc : Nat) (id2 : List By) (hj : IsB w jo id2) (hjc : id2.length ≤ jc) (hjn : jo = none → jc = 0) (hjb : id2.length ≤ 140737488351232)
    (lo : Option Addr) (lc : Nat) (l : List Cv) (hl : CvsIn w lo l) (hln : lo = none → lc = 0) (hlc : l.length ≤ lc) (hlk : ∀ c ∈ l, c.ok) (hlb : l.length ≤ 140737488351232)
    (mo : Option Addr) (mc : Nat) (k : List Cv) (hk : CvsIn w mo k) (hkn : mo = none → mc = 0) (hkc : k.length ≤ mc) (hkk : ∀ c ∈ k, c.ok) (hkb : k.length ≤ 140737488351232) :
    Calls Tryz.prog 4 #[.slice so s.length sc, .slice io id.length ic, .slice jo id2.length jc, .slice lo l.length lc, .slice mo k.length mc] w (OkP w) := by
  have AW := awake24_any C w hg
  have HC : Hid Tok := C
  have HSI : Hid (∀ W, Below w.heap.size w W → IsB W so s) := fun W h => hs.below h (Nat.le_refl _)
  have HII : Hid (∀ W, Below w.heap.size w W → IsB W io id) := fun W h => hi.below h (Nat.le_refl _)
  have HJI : Hid (∀ W, Below w.heap.size w W → IsB W jo id2) := fun W h => hj.below h (Nat.le_refl _)
  have HLI : Hid (∀ W, Below w.heap.size w W → CvsIn W lo l) := fun W h => hl.keep h
  have HKI : Hid (∀ W, Below w.heap.size w W → CvsIn W mo k) := fun W h => hk.keep h
  have HS : Hid (s.length ≤ sc ∧ (so = none → sc = 0)) := ⟨hsc, hsn⟩
  have HI : Hid (id.length ≤ ic ∧ (io = none → ic = 0) ∧ id.length ≤ 140737488351232) := ⟨hic, hin, hib⟩
  have HJ : Hid (id2.length ≤ jc ∧ (jo = none → jc = 0) ∧ id2.length ≤ 140737488351232) := ⟨hjc, hjn, hjb⟩
  have HL : Hid ((∀ c ∈ l, c.ok) ∧ l.length ≤ 140737488351232) := ⟨hlk, hlb⟩
  have HKK : Hid ((∀ c ∈ k, c.ok) ∧ k.length ≤ 140737488351232) := ⟨hkk, hkb⟩
  clear C hg hs hi hj hl hk hsc hsn hsb hic hin hib hjc hjn hjb hln hlc hlk hlb hkn hkc hkk hkb
  go_enter Tryz.func4, Tryz.ntmps4
  refine wp_seq_k fun K hK => ?_
  have HK : Hid _ := hK
  clear hK
  go_wp2
  refine HK.out _ _ ?_
  clear HK
  refine wp_seq_k fun K hK => ?_
  have HK : Hid _ := hK
  clear hK
  go_wp2_with fail
  refine AW.mono ?_
  clear AW
  rintro e w2 ⟨rfl, hb2⟩
  dsimp only
  have HB2 : Hid (Below w.heap.size w w2) := hb2
  clear hb2
  go_wp2
  refine HK.out _ _ ?_
  clear HK
  obtain ⟨W3, hW3⟩ : ∃ W3, W3 = w2.alloc (.cells #[.int .i64 3, .slice so s.length sc] 57) := ⟨_, rfl⟩
  have b3 : Below w2.heap.size w2 W3 := by rw [hW3]; exact (Below.refl _ _).alloc (Nat.le_refl _) _
  have HB3 : Hid (Below w.heap.size w W3) := HB2.out.trans (b3.mono HB2.out.size)
  have NW : Calls Tryz.prog 8 #[.slice (some ⟨w2.heap.size, 0, none⟩) 1 1] W3 (CNewPost (sec1 s) W3) := cnew_any W3 _ 1 1 w2.heap.size 0 _ (sec1 s) rfl (fun _ => rfl) (sec1In (HSI.out W3 HB3.out) HS.out.1 HS.out.2 (by rw [hW3]; exact Row.at w2 _ _ _ _ rfl rfl))
  clear b3
  refine wp_seq_k fun K hK => ?_
  have HK : Hid _ := hK
  clear hK
  generalize hns : s.length = ns at *
  go_wp2_with (first
    | (have hz := hW3; clear hz; refine wpList_at24 hW3 ?_; clear hW3))
  refine NW.mono ?_
  clear NW
  rintro e w4 ⟨hb4, h4⟩
  have HB4 : Hid (Below w.heap.size w w4) := HB3.out.trans (hb4.mono HB3.out.size)
  clear hb4
  rcases h4 with ⟨er, i, hne, rfl⟩ | ⟨hne, g, b, vs, rfl, hkg⟩
  · -- a secret that may not be
    have hbad : ¬ (1 ≤ s.length ∧ s.length ≤ 256) := fun h => by rw [new_sec1 h] at hne; cases hne
    rw [new_sec1_bad hbad] at hne
    injection hne with hne
    injection hne with e1 e2
    subst e1; subst e2
    rw [hns] at hbad
    dsimp only
    go_wp2
    refine HK.out _ _ ?_
    clear HK
    refine wp_seq_k fun K hK => ?_
    have HK : Hid _ := hK
    clear hK
    by_cases h1 : ns < 1
    · have y1 : (ns : Int) < 1 := by omega
      clear hbad h1
      go_wp2
      go_ret
      exact ⟨rfl, HB4.out⟩
    · have y1 : ¬ (ns : Int) < 1 := by omega
      have y2 : (256 : Int) < (ns : Int) := by omega
      clear hbad h1
      go_wp2
      go_ret
      exact ⟨rfl, HB4.out⟩
  · have hgood : 1 ≤ s.length ∧ s.length ≤ 256 := by
      by_cases h : 1 ≤ s.length ∧ s.length ≤ 256
      · exact h
      · rw [new_sec1_bad h] at hne; cases hne
    have HGD : Hid (s.length ≤ 256) := hgood.2
    have HKG : Hid (∀ W, Below w4.heap.size w4 W → KgO _ _ W g b vs (sec1 s)) := fun W h => hkg.below h
    dsimp only
    clear hne hkg hgood
    go_wp2
    refine HK.out _ _ ?_
    clear HK
    refine wp_seq_k fun K hK => ?_
    have HK : Hid _ := hK
    clear hK
    go_wp2
    refine HK.out _ _ ?_
    clear HK
    have IA := issued24_any HC.out s id l w4 _ _ g b vs (HKG.out w4 (Below.refl _ _)) HGD.out io ic (HII.out w4 HB4.out) HI.out.1 HI.out.2.1 HI.out.2.2 lo lc (HLI.out w4 HB4.out) HL.out.1 HL.out.2
    refine wp_seq_k fun K hK => ?_
    have HK : Hid _ := hK
    clear hK
    generalize hn1 : id.length = n1 at *
    generalize hn2 : id2.length = n2 at *
    generalize hm1 : l.length = m1 at *
    generalize hm2 : k.length = m2 at *
    go_wp2_with fail
    refine IA.mono ?_
    clear IA
    rintro e w5 ⟨hb5, io5, ic5, lo5, lc5, rfl, ho5⟩
    dsimp only
    have HB5 : Hid (Below w4.heap.size w4 w5) := hb5
    have HO5 : Hid (TkO 52 w4.heap.size w5 (isR s id l) io5 ic5 lo5 lc5) := ho5
    clear hb5 ho5
    go_wp2_with (first
      | (have hz := HO5; clear hz; refine wpList_store_Row rfl 40 (.tmp 14) (.tmp 58) rfl w5.heap.size 40 0 zTk (tkCells (isR s id l) io5 ic5 lo5 lc5) (zRow w5) (by rw [tkCells_len HO5.out.tag]; exact Nat.le_refl _) rfl rfl (by rw [tkCells_len HO5.out.tag]; kernel_rfl) (tkCells_one _ _ _ _ _) ?_; intro w6 hr hs; have HR5 : Hid (TkR w4.heap.size w6 w5.heap.size (isR s id l) io5 ic5 lo5 lc5 ∧ Below w5.heap.size w5 w6) := tkR_lay HO5.out hr hs; clear HO5 hr hs))
    have HB6 : Hid (Below w4.heap.size w4 w6) := HB5.out.trans (HR5.out.2.mono HB5.out.size)
    have HA6 : Hid (TkR w4.heap.size w6 w5.heap.size (isR s id l) io5 ic5 lo5 lc5) := HR5.out.1
    have HW6 : Hid (Below w.heap.size w w6) := HB4.out.trans (HB6.out.mono HB4.out.size)
    clear HR5 HB5
    refine HK.out _ _ ?_
    clear HK
    have IB := issued24_any HC.out s id2 k w6 _ _ g b vs (HKG.out w6 HB6.out) HGD.out jo jc (HJI.out w6 HW6.out) (by rw [hn2]; exact HJ.out.1) HJ.out.2.1 (by rw [hn2]; exact HJ.out.2.2) mo mc (HKI.out w6 HW6.out) HKK.out.1 (by rw [hm2]; exact HKK.out.2)
    rw [hn2, hm2] at IB
    clear HKG
    refine wp_seq_k fun K hK => ?_
    have HK : Hid _ := hK
    clear hK
    go_wp2_with fail
    refine IB.mono ?_
    clear IB
    rintro e w7 ⟨hb7, io7, ic7, lo7, lc7, rfl, ho7⟩
    dsimp only
    have HB7 : Hid (Below w6.heap.size w6 w7) := hb7
    have HO7 : Hid (TkO 52 w6.heap.size w7 (isR s id2 k) io7 ic7 lo7 lc7) := ho7
    clear hb7 ho7
    go_wp2_with (first
      | (have hz := HO7; clear hz; refine wpList_store_Row rfl 40 (.tmp 16) (.tmp 65) rfl w7.heap.size 40 0 zTk (tkCells (isR s id2 k) io7 ic7 lo7 lc7) (zRow w7) (by rw [tkCells_len HO7.out.tag]; exact Nat.le_refl _) rfl rfl (by rw [tkCells_len HO7.out.tag]; kernel_rfl) (tkCells_one _ _ _ _ _) ?_; intro w8 hr hs; have HR7 : Hid (TkR w6.heap.size w8 w7.heap.size (isR s id2 k) io7 ic7 lo7 lc7 ∧ Below w7.heap.size w7 w8) := tkR_lay HO7.out hr hs; clear HO7 hr hs))
    have HB8 : Hid (Below w6.heap.size w6 w8) := HB7.out.trans (HR7.out.2.mono HB7.out.size)
    have HX8 : Hid (TkR w6.heap.size w8 w7.heap.size (isR s id2 k) io7 ic7 lo7 lc7) := HR7.out.1
    have HA8 : Hid (TkR w4.heap.size w8 w5.heap.size (isR s id l) io5 ic5 lo5 lc5) := HA6.out.keep HB8.out
    have HW8 : Hid (Below w.heap.size w w8) := HW6.out.trans (HB8.out.mono HW6.out.size)
    clear HR7 HB7 HB8 HA6 HW6 HB6
    refine HK.out _ _ ?_
    clear HK
    refine wp_seq_k fun K hK => ?_
    have HK : Hid _ := hK
    clear hK
    cases hb1 : isBad id with
    | true =>
      go_wp2
      go_ret
      exact ⟨rfl, HW8.out⟩
    | false =>
      cases hb2 : isBad id2 with
      | true =>
        go_wp2
        go_ret
        exact ⟨rfl, HW8.out⟩
      | false =>
        go_wp2
        refine HK.out _ _ ?_
        clear HK
        have p1 : ¬ (id.length < 1 ∨ 64 < id.length) := of_decide_eq_false hb1
        have p2 : ¬ (id2.length < 1 ∨ 64 < id2.length) := of_decide_eq_false hb2
        have e1 : isR s id l = isT s id (l.take 32) := if_neg (by rw [hb1]; exact Bool.noConfusion)
        have e2 : isR s id2 k = isT s id2 (k.take 32) := if_neg (by rw [hb2]; exact Bool.noConfusion)
        rw [← hns, ← hn1, ← hn2]
        refine on7 _ _ _ _ _ _ _ _ _ _ _ _ _ _ _ _ _ _ _ _ _ _ _ _ _ _ _ _ _ _ _ _ _ _ _ _ _ _ _ _ _ _ _ _ _ _ _ _ _ _ _ _ _ _ _ _ _ _ _ _ _ _ _ _ _ _ _ _ _ _ _ _ _ _ _ _ _ _ _ _ _ _ _ _ _ _ _ _ _ _ _ _ _ _ _ _ _ _ _ _ _ _ _ _ _ _ _ _ _ _ _ _ _ _ _ _ _ _ _ w w8 s so sc id io ic id2 jo jc ⟨HSI.out w8 HW8.out, HS.out.2, HGD.out, HII.out w8 HW8.out, HI.out.2.1, by omega, HJI.out w8 HW8.out, HJ.out.2.1, by omega⟩ l k HL.out.1 HKK.out.1 w4.heap.size w6.heap.size w5.heap.size w7.heap.size io5 ic5 lo5 lc5 io7 ic7 lo7 lc7 (by rw [← e1]; exact HA8.out) (by rw [← e2]; exact HX8.out) HW8.out
end Go.Proofs.YtjooabgjkjnhhaaGreatDoor
