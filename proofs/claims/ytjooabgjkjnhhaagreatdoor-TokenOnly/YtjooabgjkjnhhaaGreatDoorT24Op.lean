import Derived.Test.YtjooabgjkjnhhaaGreatDoorT24Ka
import Derived.Lib.SlBytesConst
import Derived.Test.YtjooabgjkjnhhaaGreatDoorOpenA

/-! The law's token: awake. -/
namespace Go.Proofs.YtjooabgjkjnhhaaGreatDoor
open Go.RowKit
set_option linter.unusedVariables false
set_option linter.unusedSimpArgs false
set_option maxRecDepth 100000

def awL : Secs := [(1, [107#8])]
def awI : List By := [105#8, 100#8]
def awT : Tk := ⟨1, awI, [], sgn awL 1 (firstB awI)⟩
def awV : Cv := ⟨1, 1, 0, 0, 0⟩
def awZ : Cv := ⟨0, 0, 0, 0, 0⟩
def awU : Tk := ⟨1, awI, [awV], tag awT.tag (cvB awV)⟩
theorem awL_new : newE awL = none := by decide
theorem awL_256 : ∀ i, i < awL.length → (awL.getD i (0, [])).2.length ≤ 256
  | 0, _ => by decide
  | n + 1, h => absurd h (by simp [awL])
theorem aw_tag : awT.tag.length = 32 := by decide +kernel
theorem aw_ne : decide (awU.tag = awT.tag) = false := by decide +kernel
theorem aw_may : tkMay awT = true := rfl
theorem aw_get : getR (tkB awT) = .ok awT := get_put aw_may (fun c hc => by cases hc) aw_tag
theorem aw_nil : getR [] = .error (6, 0) := rfl
theorem awV_ok : awV.ok := by refine ⟨?_, ?_, ?_, ?_, ?_⟩ <;> (simp [awV] <;> omega)
theorem awZ_ok : awZ.ok := by refine ⟨?_, ?_, ?_, ?_, ?_⟩ <;> (simp [awZ] <;> omega)
theorem awSec {w : World} {a c : Nat} (ha : IsB w (some ⟨a, 0, none⟩) [107#8]) (hc : Row w c 57 [.int .i64 1, .slice (some ⟨a, 0, none⟩) 1 1]) :
    SecIn w c 0 [.slice (some ⟨a, 0, none⟩) 1 1] awL where
  key
    | 0, _ => hc.cell 0 _ rfl
    | n + 1, h => absurd h (by simp [awL])
  sl
    | 0, _ => hc.cell 1 _ rfl
    | n + 1, h => absurd h (by simp [awL])
  bytes
    | 0, _ => ⟨_, _, rfl, ha, by decide, fun h => by cases h⟩
    | n + 1, h => absurd h (by simp [awL])
theorem isbM {w : World} {g t : Nat} {fz : Nat × Nat} {l : List By} (h : w.heap[g]? = some (.cells (l.map B8).toArray t fz)) : IsB w (some ⟨g, 0, none⟩) l :=
  .inr ⟨g, 0, rfl, fun j v hj => by rw [Nat.zero_add, cell_of_row w g j _ t fz h]; simp [hj]⟩
theorem aw_str : (strOf awI).toList = [105, 100] := by decide +kernel

set_option maxHeartbeats 4000000 in
theorem awake24_any (C : Tok) (w : World) (hg : HG w) : Calls Tryz.prog 6 #[] w fun e w' => e = .returned (.bool true) ∧ Below w.heap.size w w' := by
  have HC : Hid Tok := C
  have HGW : Hid (HG w) := hg
  have kc1 := Lib.run_convert_bytes_const (P := Tryz.prog) w 23 5 #[.int .u8 107] 1 1 Tryz.underlying23 Tryz.underlying5
  have MK : Hid (∀ W1, W1 = ((w.alloc (.cells #[.int .u8 107] 5 (1, 2))).alloc (.cells #[.int .i64 1, .slice (some ⟨w.heap.size, 0, none⟩) 1 1] 57)) → Calls Tryz.prog 8 #[.slice (some ⟨w.heap.size + 1, 0, none⟩) 1 1] W1 (CNewPost awL W1) ∧ Below w.heap.size w W1) := by
    intro W1 hW
    subst hW
    refine ⟨cnew_any _ _ 1 1 (w.heap.size + 1) 0 _ awL rfl (fun _ => rfl) (awSec (isbM (l := [107#8]) (t := 5) (fz := (1, 2)) ((Below.heap_alloc _ _ _ (by simp)).trans (heap_alloc_new w _))) (Row.at _ 57 _ _ _ (by simp) rfl)), ?_⟩
    exact ((Below.refl _ _).alloc (Nat.le_refl _) _).alloc (by simp) _
  clear C hg
  go_enter Tryz.func6, Tryz.ntmps6
  go_wp2_with fail
  refine (MK.out _ rfl).1.mono ?_
  have bw1 := (MK.out _ rfl).2
  clear MK kc1
  rintro e w1 ⟨hb1, h1⟩
  have HB1 : Hid (Below w.heap.size w w1) := bw1.trans (hb1.mono bw1.size)
  clear hb1 bw1
  rcases h1 with ⟨er, i, hne, _⟩ | ⟨_, g, b, vs, rfl, hk⟩
  · rw [awL_new] at hne; cases hne
  dsimp only
  obtain ⟨W2, hW2⟩ : ∃ W2, W2 = w1.alloc (.cells #[.int .u8 105, .int .u8 100] 5 (2, 3)) := ⟨_, rfl⟩
  have b2 : Below w1.heap.size w1 W2 := by rw [hW2]; exact (Below.refl _ _).alloc (Nat.le_refl _) _
  have IS : Calls Tryz.prog 10 #[.pointer (some ⟨g, 0, none⟩), .int .i64 1, .slice (some ⟨w1.heap.size, 0, none⟩) 2 2] W2 fun e w' => Below W2.heap.size W2 w' ∧ TkA awT (.int .i64 0) W2 e w' :=
    (HC.out.issue _ _ W2 g b vs awL (hk.below b2) awL_256 1 (some ⟨w1.heap.size, 0, none⟩) 2 awI (by rw [hW2]; exact isbM (l := awI) (t := 5) (fz := (2, 3)) (heap_alloc_new w1 _)) (Nat.le_refl _) (fun h => by cases h) (by decide)).mono fun e w' ⟨h1, h2⟩ => ⟨h1, h2⟩
  have HB2 : Hid (Below w.heap.size w W2) := HB1.out.trans (b2.mono HB1.out.size)
  have kc2 := Lib.run_convert_bytes_const (P := Tryz.prog) w1 23 5 #[.int .u8 105, .int .u8 100] 2 2 Tryz.underlying23 Tryz.underlying5
  clear hk b2 HB1
  go_wp2_with (first
    | (have hz := hW2; clear hz; refine wpList_at24 hW2 ?_; clear hW2 kc2)
    | (go_at_call 10; refine IS.mono ?_; clear IS))
  rintro e w3 ⟨hb3, io3, ic3, lo3, lc3, rfl, ho3⟩
  dsimp only
  have HB3 : Hid (Below w.heap.size w w3) := HB2.out.trans (hb3.mono HB2.out.size)
  have HO3 : Hid (TkO 52 W2.heap.size w3 awT io3 ic3 lo3 lc3) := ho3
  clear hb3 ho3 HB2
  have N1 : Hid (∀ W, TkV W awT io3 ic3 lo3 lc3 → Calls Tryz.prog 15 #[.agg (tkCells awT io3 ic3 lo3 lc3).toArray, .agg #[.int .i64 1, .int .i64 1, .int .i64 0, .int .i64 0, .int .u64 0]] W fun e w' => Below W.heap.size W w' ∧ TkA awU (.int .i64 0) W e w') := fun W h => (HC.out.narrow awT awV io3 ic3 lo3 lc3 W h (by decide) awV_ok).mono fun e w' ⟨h1, h2⟩ => ⟨h1, by rw [if_neg (by decide), if_pos (by rfl)] at h2; exact h2⟩
  have N2 : Hid (∀ W, TkV W awT io3 ic3 lo3 lc3 → Calls Tryz.prog 15 #[.agg (tkCells awT io3 ic3 lo3 lc3).toArray, .agg #[.int .i64 0, .int .i64 0, .int .i64 0, .int .i64 0, .int .u64 0]] W fun e w' => Below W.heap.size W w' ∧ TkA tk0 (.int .i64 1) W e w') := fun W h => (HC.out.narrow awT awZ io3 ic3 lo3 lc3 W h (by decide) awZ_ok).mono fun e w' ⟨h1, h2⟩ => ⟨h1, by rw [if_neg (by decide), if_neg (by decide)] at h2; exact h2⟩
  have P1 : Hid (∀ W, TkV W awT io3 ic3 lo3 lc3 → Calls Tryz.prog 22 #[.agg (tkCells awT io3 ic3 lo3 lc3).toArray] W fun e w' => Below W.heap.size W w' ∧ ∃ ao c', e = .returned (.tuple #[.slice ao 42 c', .int .i64 0]) ∧ Own W.heap.size w' (.slice ao 42 c') (tkB awT)) := fun W h => (HC.out.put awT io3 ic3 lo3 lc3 W h (by decide)).mono fun e w' ⟨h1, h2⟩ => ⟨h1, by rw [if_pos aw_may, tkB_len aw_tag] at h2; exact h2⟩
  go_wp2_with (first
    | (have hz := HO3; clear hz; refine wpList_store_Row rfl 40 (.tmp 4) (.tmp 38) rfl w3.heap.size 40 0 zTk (tkCells awT io3 ic3 lo3 lc3) (zRow w3) (by rw [tkCells_len HO3.out.tag]; exact Nat.le_refl _) rfl rfl (by rw [tkCells_len HO3.out.tag]; kernel_rfl) (tkCells_one _ _ _ _ _) ?_; intro w4 hr hs; have HR3 : Hid (TkR W2.heap.size w4 w3.heap.size awT io3 ic3 lo3 lc3 ∧ Below w3.heap.size w3 w4) := tkR_lay HO3.out hr hs; clear HO3 hr hs)
    | (have hz := HR3; clear hz; have HB4 : Hid (Below w.heap.size w w4) := HB3.out.trans (HR3.out.2.mono HB3.out.size); have HT4 : Hid (TkR W2.heap.size w4 w3.heap.size awT io3 ic3 lo3 lc3) := HR3.out.1; clear HR3 HB3)
    | (have hz := HT4; clear hz; refine wpList_load_Row rfl 40 (.tmp 4) rfl w3.heap.size 40 (tkCells awT io3 ic3 lo3 lc3) HT4.out.row rfl _ Tryz.underlying40 rfl (by rw [tkCells_len HT4.out.own.tag]; kernel_rfl) ?_)
    | (go_at_call 15; refine (N1.out w4 HT4.out.own.v).mono ?_; clear N1))
  rintro e w5 ⟨hb5, io5, ic5, lo5, lc5, rfl, ho5⟩
  dsimp only
  have HB5 : Hid (Below w.heap.size w w5) := HB4.out.trans (hb5.mono HB4.out.size)
  have HT5 : Hid (TkR W2.heap.size w5 w3.heap.size awT io3 ic3 lo3 lc3) := HT4.out.keep hb5
  have HO5 : Hid (TkO 52 w4.heap.size w5 awU io5 ic5 lo5 lc5) := ho5
  clear hb5 ho5 HT4 HB4
  go_wp2_with (first
    | (have hz := HO5; clear hz; refine wpList_store_Row rfl 40 (.tmp 6) (.tmp 44) rfl w5.heap.size 40 0 zTk (tkCells awU io5 ic5 lo5 lc5) (zRow w5) (by rw [tkCells_len HO5.out.tag]; exact Nat.le_refl _) rfl rfl (by rw [tkCells_len HO5.out.tag]; kernel_rfl) (tkCells_one _ _ _ _ _) ?_; intro w6 hr hs; have HR5 : Hid (TkR w4.heap.size w6 w5.heap.size awU io5 ic5 lo5 lc5 ∧ Below w5.heap.size w5 w6) := tkR_lay HO5.out hr hs; clear HO5 hr hs)
    | (have hz := HR5; clear hz; have HB6 : Hid (Below w.heap.size w w6) := HB5.out.trans (HR5.out.2.mono HB5.out.size); have HU6 : Hid (TkR w4.heap.size w6 w5.heap.size awU io5 ic5 lo5 lc5) := HR5.out.1; have HT6 : Hid (TkR W2.heap.size w6 w3.heap.size awT io3 ic3 lo3 lc3) := HT5.out.keep HR5.out.2; clear HR5 HB5 HT5)
    | (have hz := HT6; clear hz; refine wpList_load_Row rfl 40 (.tmp 4) rfl w3.heap.size 40 (tkCells awT io3 ic3 lo3 lc3) HT6.out.row rfl _ Tryz.underlying40 rfl (by rw [tkCells_len HT6.out.own.tag]; kernel_rfl) ?_)
    | (go_at_call 15; refine (N2.out w6 HT6.out.own.v).mono ?_; clear N2))
  rintro e w7 ⟨hb7, io7, ic7, lo7, lc7, rfl, ho7⟩
  dsimp only
  have HB7 : Hid (Below w.heap.size w w7) := HB6.out.trans (hb7.mono HB6.out.size)
  have HT7 : Hid (TkR W2.heap.size w7 w3.heap.size awT io3 ic3 lo3 lc3) := HT6.out.keep hb7
  have HU7 : Hid (TkR w4.heap.size w7 w5.heap.size awU io5 ic5 lo5 lc5) := HU6.out.keep hb7
  have HO7 : Hid (TkO 52 w6.heap.size w7 tk0 io7 ic7 lo7 lc7) := ho7
  clear hb7 ho7 HT6 HB6 HU6
  go_wp2_with (first
    | (have hz := HO7; clear hz; refine wpList_store_Row rfl 40 (.tmp 8) (.tmp 50) rfl w7.heap.size 40 0 zTk (tkCells tk0 io7 ic7 lo7 lc7) (zRow w7) (by rw [tkCells_len HO7.out.tag]; exact Nat.le_refl _) rfl rfl (by rw [tkCells_len HO7.out.tag]; kernel_rfl) (tkCells_one _ _ _ _ _) ?_; intro w8 hr hs; have HR7 : Hid (TkR w6.heap.size w8 w7.heap.size tk0 io7 ic7 lo7 lc7 ∧ Below w7.heap.size w7 w8) := tkR_lay HO7.out hr hs; clear HO7 hr hs)
    | (have hz := HR7; clear hz; have HB8 : Hid (Below w.heap.size w w8) := HB7.out.trans (HR7.out.2.mono HB7.out.size); have HU8 : Hid (TkR w4.heap.size w8 w5.heap.size awU io5 ic5 lo5 lc5) := HU7.out.keep HR7.out.2; have HT8 : Hid (TkR W2.heap.size w8 w3.heap.size awT io3 ic3 lo3 lc3) := HT7.out.keep HR7.out.2; clear HR7 HB7 HT7 HU7)
    | (have hz := HT8; clear hz; refine wpList_load_Row rfl 40 (.tmp 4) rfl w3.heap.size 40 (tkCells awT io3 ic3 lo3 lc3) HT8.out.row rfl _ Tryz.underlying40 rfl (by rw [tkCells_len HT8.out.own.tag]; kernel_rfl) ?_)
    | (go_at_call 22; refine (P1.out w8 HT8.out.own.v).mono ?_; clear P1))
  rintro e w9 ⟨hb9, bo, bc, rfl, hob⟩
  dsimp only
  have HB9 : Hid (Below w.heap.size w w9) := HB8.out.trans (hb9.mono HB8.out.size)
  have HT9 : Hid (TkR W2.heap.size w9 w3.heap.size awT io3 ic3 lo3 lc3) := HT8.out.keep hb9
  have HU9 : Hid (TkR w4.heap.size w9 w5.heap.size awU io5 ic5 lo5 lc5) := HU8.out.keep hb9
  clear hb9 HT8 HB8 HU8
  have hl42 : (tkB awT).length = 42 := by rw [tkB_len aw_tag]; rfl
  have G1 : Calls Tryz.prog 23 #[.slice bo 42 bc] w9 fun e w' => Below w9.heap.size w9 w' ∧ TkA awT .nilIface w9 e w' := by
    have h := HC.out.get bo bc (tkB awT) w9 (own_IsB hob) (by rw [hl42]; exact own_cap hob) (own_nilcap hob) (by rw [hl42]; decide)
    rw [hl42] at h
    exact h.mono fun e w' ⟨h1, _, h2⟩ => ⟨h1, h2 awT aw_get⟩
  have G2 : Hid (∀ W, Calls Tryz.prog 23 #[.slice none 0 0] W fun e w' => Below W.heap.size W w' ∧ ∃ ge, TkA tk0 (.iface 108 (.pointer (some ⟨ge, 0, none⟩))) W e w' ∧ Row w' ge 109 [.int .i64 6, .int .i64 0]) := fun W =>
    (HC.out.get none 0 [] W (.inl rfl) (Nat.le_refl _) (fun _ => rfl) (by decide)).mono fun e w' ⟨h1, h2, _⟩ => ⟨h1, h2 6 0 aw_nil⟩
  clear hob hl42
  go_wp2_with (first
    | (go_at_call 23; refine G1.mono ?_; clear G1))
  rintro e w10 ⟨hb10, io10, ic10, lo10, lc10, rfl, ho10⟩
  dsimp only
  have HB10 : Hid (Below w.heap.size w w10) := HB9.out.trans (hb10.mono HB9.out.size)
  have HT10 : Hid (TkR W2.heap.size w10 w3.heap.size awT io3 ic3 lo3 lc3) := HT9.out.keep hb10
  have HU10 : Hid (TkR w4.heap.size w10 w5.heap.size awU io5 ic5 lo5 lc5) := HU9.out.keep hb10
  have HO10 : Hid (TkO 52 w9.heap.size w10 awT io10 ic10 lo10 lc10) := ho10
  clear hb10 ho10 HT9 HU9 HB9
  go_wp2_with (first
    | (have hz := HO10; clear hz; refine wpList_store_Row rfl 40 (.tmp 12) (.tmp 60) rfl w10.heap.size 40 0 zTk (tkCells awT io10 ic10 lo10 lc10) (zRow w10) (by rw [tkCells_len HO10.out.tag]; exact Nat.le_refl _) rfl rfl (by rw [tkCells_len HO10.out.tag]; kernel_rfl) (tkCells_one _ _ _ _ _) ?_; intro w11 hr hs; have HR10 : Hid (TkR w9.heap.size w11 w10.heap.size awT io10 ic10 lo10 lc10 ∧ Below w10.heap.size w10 w11) := tkR_lay HO10.out hr hs; clear HO10 hr hs)
    | (have hz := HR10; clear hz; have HB11 : Hid (Below w.heap.size w w11) := HB10.out.trans (HR10.out.2.mono HB10.out.size); have HU11 : Hid (TkR w4.heap.size w11 w5.heap.size awU io5 ic5 lo5 lc5) := HU10.out.keep HR10.out.2; have HT11 : Hid (TkR W2.heap.size w11 w3.heap.size awT io3 ic3 lo3 lc3) := HT10.out.keep HR10.out.2; have HX11 : Hid (TkR w9.heap.size w11 w10.heap.size awT io10 ic10 lo10 lc10) := HR10.out.1; clear HR10 HB10 HT10 HU10)
    | (go_at_call 23; refine (G2.out w11).mono ?_; clear G2))
  rintro e w12 ⟨hb12, ge, ⟨io12, ic12, lo12, lc12, rfl, ho12⟩, hge⟩
  dsimp only
  have HB12 : Hid (Below w.heap.size w w12) := HB11.out.trans (hb12.mono HB11.out.size)
  have HT12 : Hid (TkR W2.heap.size w12 w3.heap.size awT io3 ic3 lo3 lc3) := HT11.out.keep hb12
  have HU12 : Hid (TkR w4.heap.size w12 w5.heap.size awU io5 ic5 lo5 lc5) := HU11.out.keep hb12
  have HX12 : Hid (TkR w9.heap.size w12 w10.heap.size awT io10 ic10 lo10 lc10) := HX11.out.keep hb12
  have HO12 : Hid (TkO 52 w11.heap.size w12 tk0 io12 ic12 lo12 lc12) := ho12
  have HGE : Hid (Row w12 ge 109 [.int .i64 6, .int .i64 0]) := hge
  clear hb12 ho12 hge HT11 HU11 HB11 HX11
  have TD : Hid (∀ W, Below w12.heap.size w12 W → Calls Tryz.prog 25 #[.iface 108 (.pointer (some ⟨ge, 0, none⟩))] W fun e w' => e = .returned (.tuple #[.agg #[.int .i64 6, .int .i64 0], .bool true]) ∧ Below W.heap.size W w') := fun W hb => told24_wrong W ge 6 0 (by decide) (HGW.out.below (HB12.out.trans (hb.mono HB12.out.size)) HGW.out.lt) (HGE.out.below hb HGE.out.lt)
  go_wp2_with (first
    | (have hz := HO12; clear hz; refine wpList_store_Row rfl 40 (.tmp 14) (.tmp 64) rfl w12.heap.size 40 0 zTk (tkCells tk0 io12 ic12 lo12 lc12) (zRow w12) (by rw [tkCells_len HO12.out.tag]; exact Nat.le_refl _) rfl rfl (by rw [tkCells_len HO12.out.tag]; kernel_rfl) (tkCells_one _ _ _ _ _) ?_; intro w13 hr hs; have HR12 : Hid (TkR w11.heap.size w13 w12.heap.size tk0 io12 ic12 lo12 lc12 ∧ Below w12.heap.size w12 w13) := tkR_lay HO12.out hr hs; clear HO12 hr hs)
    | (have hz := HR12; clear hz; have HB13 : Hid (Below w.heap.size w w13) := HB12.out.trans (HR12.out.2.mono HB12.out.size); have HU13 : Hid (TkR w4.heap.size w13 w5.heap.size awU io5 ic5 lo5 lc5) := HU12.out.keep HR12.out.2; have HT13 : Hid (TkR W2.heap.size w13 w3.heap.size awT io3 ic3 lo3 lc3) := HT12.out.keep HR12.out.2; have HX13 : Hid (TkR w9.heap.size w13 w10.heap.size awT io10 ic10 lo10 lc10) := HX12.out.keep HR12.out.2; have TD2 := TD.out w13 HR12.out.2; clear HR12 HB12 HT12 HU12 HX12 TD HGE)
    | (go_at_call 25; refine TD2.mono ?_; clear TD2))
  rintro e w14 ⟨rfl, hb14⟩
  dsimp only
  have HB14 : Hid (Below w.heap.size w w14) := HB13.out.trans (hb14.mono HB13.out.size)
  obtain ⟨W15, hW15⟩ : ∃ W15, W15 = w14.alloc (.cells #[.int .i64 0, .int .i64 0] 73) := ⟨_, rfl⟩
  have b15 : Below w14.heap.size w14 W15 := by rw [hW15]; exact (Below.refl _ _).alloc (Nat.le_refl _) _
  have z15 : Row W15 w14.heap.size 73 [.int .i64 0, .int .i64 0] := by rw [hW15]; exact Row.at w14 _ _ _ _ rfl rfl
  have HT15 : Hid (TkR W2.heap.size W15 w3.heap.size awT io3 ic3 lo3 lc3) := (HT13.out.keep hb14).keep b15
  have HU15 : Hid (TkR w4.heap.size W15 w5.heap.size awU io5 ic5 lo5 lc5) := (HU13.out.keep hb14).keep b15
  have HX15 : Hid (TkR w9.heap.size W15 w10.heap.size awT io10 ic10 lo10 lc10) := (HX13.out.keep hb14).keep b15
  have lt3 : w3.heap.size < w14.heap.size := (HT13.out.keep hb14).row.lt
  have lt5 : w5.heap.size < w14.heap.size := (HU13.out.keep hb14).row.lt
  have lt10 : w10.heap.size < w14.heap.size := (HX13.out.keep hb14).row.lt
  have FIN : Hid (∀ w16, Row w16 w14.heap.size 73 ([Value.int .i64 0, .int .i64 0].take 0 ++ [.int .i64 6, .int .i64 0] ++ [Value.int .i64 0, .int .i64 0].drop (0 + [Value.int .i64 6, .int .i64 0].length)) → SameBut w14.heap.size W15 w16 → Row w16 w14.heap.size 73 [.int .i64 6, .int .i64 0] ∧ Row w16 w3.heap.size 40 (tkCells awT io3 ic3 lo3 lc3) ∧ Row w16 w5.heap.size 40 (tkCells awU io5 ic5 lo5 lc5) ∧ Row w16 w10.heap.size 40 (tkCells awT io10 ic10 lo10 lc10) ∧ IsB w16 io10 awI ∧ Below w.heap.size w w16) := fun w16 hr hs =>
    ⟨hr, HT15.out.row.but hs (by omega), HU15.out.row.but hs (by omega), HX15.out.row.but hs (by omega), own_IsB (own_butr HX15.out.own.id hs z15 (by decide)), hs.below (HB14.out.trans (b15.mono HB14.out.size)) HB14.out.size⟩
  have Z15 : Hid (Row W15 w14.heap.size 73 [.int .i64 0, .int .i64 0]) := z15
  have TG : Hid (awT.tag.length = 32 ∧ awU.tag.length = 32) := ⟨HT15.out.own.tag, HU15.out.own.tag⟩
  have EQT := fun W => eq_any awU.tag awT.tag HU15.out.own.tag HT15.out.own.tag false aw_ne.symm W
  have EQW := fun W => eq_wrong24 6 0 6 0 (by omega) (by omega) (by omega) (by omega) true rfl W
  have ES : Hid (((strOf awI).toList == [105, 100]) = true) := by rw [aw_str]; exact rfl
  clear hb14 HB13 HT13 HU13 HX13 HB14 b15 z15 HT15 HU15 HX15 lt3 lt5 lt10 HC HGW
  have P1 : Hid (((tkCells awT io3 ic3 lo3 lc3).drop 3).take 32 = awT.tag.map B8) := tkCells_tag TG.out.1 _ _ _ _
  have P2 : Hid (((tkCells awU io5 ic5 lo5 lc5).drop 3).take 32 = awU.tag.map B8) := tkCells_tag TG.out.2 _ _ _ _
  have LT : Hid ((awT.tag.map B8).length = 32) := by show _ = _; rw [List.length_map, TG.out.1]
  have LU : Hid ((awU.tag.map B8).length = 32) := by show _ = _; rw [List.length_map, TG.out.2]
  go_wp2_with (first
    | (have hz := hW15; clear hz; refine wpList_at24 hW15 ?_; clear hW15)
    | (have hz := Z15; clear hz; refine wpList_store_Row rfl 73 (.tmp 16) (.tmp 69) rfl w14.heap.size 73 0 _ [.int .i64 6, .int .i64 0] Z15.out (Nat.le_refl _) rfl rfl (by kernel_rfl) (by simp [Value.oneCell']) ?_; intro w16 hr hs; have HF : Hid _ := FIN.out w16 hr hs; clear Z15 hr hs FIN
       have x2 : w16.cell? ⟨w5.heap.size, 2, none⟩ = some (.slice lo5 1 lc5) := HF.out.2.2.1.cell 2 _ rfl
       have y0 : w16.cell? ⟨w10.heap.size, 0, none⟩ = some (.int .i64 1) := HF.out.2.2.2.1.cell 0 _ rfl
       have y1 : w16.cell? ⟨w10.heap.size, 1, none⟩ = some (.slice io10 2 ic10) := HF.out.2.2.2.1.cell 1 _ rfl
       have cv := conv_bytes w16 io10 2 ic10 awI rfl HF.out.2.2.2.2.1
       have e0 := ES.out; have K1 : Hid True := trivial; have K2 : Hid True := trivial; have K3 : Hid True := trivial)
    | (have hz := K1; clear hz; refine wpList_load_part_g ?_ 26 (.tmp 84) rfl w5.heap.size 3 40 32 _ HF.out.2.2.1 rfl _ (awU.tag.map B8) P2.out LU.out Tryz.underlying26 rfl (by kernel_rfl) ?_; (· rfl); clear K1)
    | (have hz := K2; clear hz; refine wpList_load_part_g ?_ 26 (.tmp 86) rfl w3.heap.size 3 40 32 _ HF.out.2.1 rfl _ (awT.tag.map B8) P1.out LT.out Tryz.underlying26 rfl (by kernel_rfl) ?_; (· rfl); clear K2)
    | (have hz := K3; clear hz; refine wpList_load_whole_g ?_ 73 (.tmp 16) rfl w14.heap.size 73 2 [.int .i64 6, .int .i64 0] HF.out.1 rfl _ rfl Tryz.underlying73 rfl (by kernel_rfl) ?_; (· rfl); clear K3))
  go_ret
  exact ⟨rfl, HF.out.2.2.2.2.2⟩
end Go.Proofs.YtjooabgjkjnhhaaGreatDoor


/-! TokenReturns. (Printed by tools/gent24c.py.) -/
namespace Go.Proofs.YtjooabgjkjnhhaaGreatDoor
open Go.RowKit
set_option linter.unusedVariables false
set_option linter.unusedSimpArgs false
set_option maxRecDepth 100000

section
variable {W1 : World} {x : Tk} {io : Option Addr} {ic : Nat} {T X : List Value} {L : Nat → Bool} {x33 x34 x35 x36 x37 x38 x39 x40 x41 : Value} {W W2 : World}
end
end Go.Proofs.YtjooabgjkjnhhaaGreatDoor


/-! Get of the code and of the document, both ways at once; rows of bytes in memory; TokenNames. -/
namespace Go.Proofs.YtjooabgjkjnhhaaGreatDoor
open Go.RowKit
set_option linter.unusedVariables false
set_option linter.unusedSimpArgs false
set_option maxRecDepth 100000

end Go.Proofs.YtjooabgjkjnhhaaGreatDoor


/-! Token's statements: caveats, tokens and rows of bytes that came in, laid open. -/
namespace Go.Proofs.YtjooabgjkjnhhaaGreatDoor
open Go.ChangeShapes Go.WideShapes Go.ChangeAt Go.RowKit
set_option linter.unusedVariables false
set_option maxRecDepth 100000
section
variable {H : Type} {enc : TypeId × Value → H} {W : World} {n : Nat} {cs : List Value} {x : DataW H × List MemPlace}
theorem open_cv (h : DataW.trod enc Tryz.prog W 0 (fun _ => true) true n 50 cs = some x) : ∃ c : Cv, cs = cvC c ∧ c.ok := by
  obtain ⟨ys, m, rfl, rfl, hl, hx, hf⟩ := DataW.trod_struct Tryz.underlying50 h
  have hl5 : cs.length = 5 := by rw [hl]; kernel_rfl
  have hx5 : ys.length = 5 := hx
  match cs, hl5 with
  | [c0, c1, c2, c3, c4], _ =>
    match ys, hx5 with
    | [y0, y1, y2, y3, y4], _ =>
      have t0 : DataW.trod enc Tryz.prog W 0 (fun _ => true) true m 3 [c0] = some y0 := hf 0 _ rfl
      have t1 : DataW.trod enc Tryz.prog W 0 (fun _ => true) true m 3 [c1] = some y1 := hf 1 _ rfl
      have t2 : DataW.trod enc Tryz.prog W 0 (fun _ => true) true m 2 [c2] = some y2 := hf 2 _ rfl
      have t3 : DataW.trod enc Tryz.prog W 0 (fun _ => true) true m 2 [c3] = some y3 := hf 3 _ rfl
      have t4 : DataW.trod enc Tryz.prog W 0 (fun _ => true) true m 48 [c4] = some y4 := hf 4 _ rfl
      obtain ⟨z0, e0, _, w0⟩ := DataW.trod_int Tryz.underlying3 t0
      obtain ⟨z1, e1, _, w1⟩ := DataW.trod_int Tryz.underlying3 t1
      obtain ⟨z2, e2, _, w2⟩ := DataW.trod_int Tryz.underlying2 t2
      obtain ⟨z3, e3, _, w3⟩ := DataW.trod_int Tryz.underlying2 t3
      obtain ⟨z4, e4, _, w4⟩ := DataW.trod_int Tryz.underlying48 t4
      injection e0 with e0 _; injection e1 with e1 _; injection e2 with e2 _; injection e3 with e3 _; injection e4 with e4 _
      subst e0 e1 e2 e3 e4
      have b0 := bounds_i64 w0; have b1 := bounds_i64 w1; have b2 := bounds_i64 w2; have b3 := bounds_i64 w3; have b4 := bounds_u64 w4
      refine ⟨⟨z0, z1, z2, z3, z4.toNat⟩, ?_, ?_⟩
      · show _ = [Value.int .i64 z0, .int .i64 z1, .int .i64 z2, .int .i64 z3, .int .u64 (z4.toNat : Int)]
        rw [show (z4.toNat : Int) = z4 by omega]
      · exact ⟨⟨b0.1, by show z0 < _; omega⟩, ⟨b1.1, by show z1 < _; omega⟩, ⟨b2.1, by show z2 < _; omega⟩, ⟨b3.1, by show z3 < _; omega⟩, by show z4.toNat < _; omega⟩
/-- Caveats that came in. -/
theorem open_cvs (h : DataW.trod enc Tryz.prog W 0 (fun _ => true) true n 24 cs = some x) (hsz : ∀ k ∈ x.1.weights Tryz.prog 24, k ≤ reachBytes) :
    ∃ (a : Option Addr) (cap : Nat) (l : List Cv), cs = [.slice a l.length cap] ∧ CvsIn W a l ∧ (a = none → cap = 0) ∧ l.length ≤ cap ∧ (∀ c ∈ l, c.ok) ∧ l.length ≤ 140737488351232 := by
  rcases Deep.open_slice Tryz.underlying24 h with ⟨rfl, rfl⟩ | ⟨a, len, cap, m, n, D, Pl, rfl, hb, hl, hm, hmm, rfl, hel⟩
  · exact ⟨none, 0, [], rfl, fun i c hi => (by cases hi), fun _ => rfl, by simp, fun c hc => (by cases hc), by simp⟩
  · rw [show Tryz.prog.cellsOf 50 = 5 by kernel_rfl] at hel
    simp at hmm
    subst hmm
    simp only [DataW.weights, Tryz.underlying24] at hsz
    have hlen : len ≤ 140737488351232 := by
      have h1 := hsz _ (List.mem_cons_self ..)
      rw [show Tryz.prog.bytesOf 50 = 40 by kernel_rfl] at h1
      simp only [List.length_map, List.length_range, reachBytes] at h1
      omega
    by_cases h0 : 0 < len
    · obtain ⟨b, off, spot⟩ := a
      have hspot : spot = none := by
        obtain ⟨cs', h1, _⟩ := hel 0 (by omega)
        obtain ⟨_, hl3, hc⟩ := World.cells?_some h1
        have h2 := hc 0 (by omega)
        rw [List.getElem?_eq_getElem (by omega)] at h2
        simpa [Addr.add] using World.cell?_spot h2
      subst hspot
      obtain ⟨l, ho1, ho2⟩ := list_of (fun i c => b < W.heap.size ∧ W.rangeAt b (off + i * 5) (cvC c) ∧ c.ok) len (fun i hi => by
        obtain ⟨cs', h1, h2⟩ := hel i (by omega)
        obtain ⟨c, rfl, hok⟩ := open_cv h2
        obtain ⟨_, hl3, hc⟩ := World.cells?_some h1
        have hcell : ∀ j v, (cvC c)[j]? = some v → W.cell? ⟨b, off + i * 5 + j, none⟩ = some v := fun j v hv => by
          have h3 := hc j (by have := (List.getElem?_eq_some_iff.1 hv).1; rw [hl3] at this; exact this)
          rw [hv, Addr.add_mid, Addr.add_mid] at h3
          exact h3
        refine ⟨c, ?_, hcell, hok⟩
        have h4 := hcell 0 _ rfl
        exact Nat.lt_of_not_le fun hle => by
          have : W.heap[b]? = none := by simp; exact hle
          simp [World.cell?, this] at h4)
      subst ho1
      refine ⟨some ⟨b, off, none⟩, m, l, rfl, fun i c hi => ?_, fun e => (by cases e), by omega, fun c hc => ?_, hlen⟩
      · exact ⟨b, off, rfl, (ho2 i c hi).1, (ho2 i c hi).2.1⟩
      · obtain ⟨i, hi⟩ := List.getElem?_of_mem hc
        exact (ho2 i c hi).2.2
    · obtain rfl : len = 0 := by omega
      exact ⟨some a, m, [], rfl, fun i c hi => (by cases hi), fun e => (by cases e), by simp, fun c hc => (by cases hc), by simp⟩
theorem open_sl (h : DataW.trod enc Tryz.prog W 0 (fun _ => true) true n 23 cs = some x) (hsz : ∀ k ∈ x.1.weights Tryz.prog 23, k ≤ reachBytes) :
    ∃ (a : Option Addr) (cap : Nat) (bs : List By), cs = [.slice a bs.length cap] ∧ IsB W a bs ∧ (a = none → cap = 0) ∧ bs.length ≤ cap ∧ bs.length ≤ 140737488351232 := by
  rcases open_ints Tryz.underlying23 Tryz.underlying5 (by kernel_rfl) h with ⟨e2, _⟩ | ⟨a', len', cap', zs, e2, _⟩
  · subst e2
    obtain ⟨bs, hl, ib, hn, hc, hm⟩ := open_bytes h hsz
    exact ⟨_, _, bs, by rw [hl], ib, hn, by omega, by omega⟩
  · subst e2
    obtain ⟨bs, hl, ib, hn, hc, hm⟩ := open_bytes h hsz
    exact ⟨_, _, bs, by rw [hl], ib, hn, by omega, by omega⟩
/-- A token that came in. -/
theorem open_tok (h : DataW.trod enc Tryz.prog W 0 (fun _ => true) true n 28 cs = some x) (hsz : ∀ k ∈ x.1.weights Tryz.prog 28, k ≤ reachBytes) :
    ∃ (t : Tk) (io : Option Addr) (ic : Nat) (lo : Option Addr) (lc : Nat), cs = tkCells t io ic lo lc ∧ TkV W t io ic lo lc := by
  obtain ⟨ys, m, rfl, rfl, hl, hx, hf⟩ := DataW.trod_struct Tryz.underlying28 h
  have hl35 : cs.length = 35 := by rw [hl]; kernel_rfl
  have hx4 : ys.length = 4 := hx
  match cs, hl35 with
  | c0 :: c1 :: c2 :: r, hr =>
    match ys, hx4 with
    | [y0, y1, y2, y3], _ =>
      have t0 : DataW.trod enc Tryz.prog W 0 (fun _ => true) true m 3 [c0] = some y0 := hf 0 _ rfl
      have t1 : DataW.trod enc Tryz.prog W 0 (fun _ => true) true m 23 [c1] = some y1 := hf 1 _ rfl
      have t2 : DataW.trod enc Tryz.prog W 0 (fun _ => true) true m 24 [c2] = some y2 := hf 2 _ rfl
      have t3 : DataW.trod enc Tryz.prog W 0 (fun _ => true) true m 26 (r.take 32) = some y3 := hf 3 _ rfl
      obtain ⟨z0, e0, _, w0⟩ := DataW.trod_int Tryz.underlying3 t0
      injection e0 with e0 _
      subst e0
      obtain ⟨io, ic, id, e1, i1, i2, i3, i4⟩ := open_sl t1 (fun k hk => hsz k (by
        simp only [DataW.weights, Tryz.underlying28]
        exact DataW.weights_mem_each (j := 1) (t := 23) (d := y1.1) rfl rfl _ hk))
      obtain ⟨lo, lc, l, e2, l1, l2, l3, l4, l5⟩ := open_cvs t2 (fun k hk => hsz k (by
        simp only [DataW.weights, Tryz.underlying28]
        exact DataW.weights_mem_each (j := 2) (t := 24) (d := y2.1) rfl rfl _ hk))
      obtain ⟨tg, ht, e3⟩ := open_hash t3
      rw [List.take_of_length_le (by simp at hr; omega)] at e3
      injection e1 with e1 _
      injection e2 with e2 _
      subst e1 e2 e3
      exact ⟨⟨z0, id, l, tg⟩, io, ic, lo, lc, rfl, ⟨i1, i2, i3, l1, l2, l3, ht, l4, i4⟩⟩
end
end Go.Proofs.YtjooabgjkjnhhaaGreatDoor
