
import Derived.Test.YtjooabgjkjnhhaaGreatDoorT24Op
import Derived.Test.YtjooabgjkjnhhaaGreatDoorT24Iq
import Derived.Test.YtjooabgjkjnhhaaGreatDoorT24Only
/-! The law's issued. (Printed by tools/gent24c.py.) -/
namespace Go.Proofs.YtjooabgjkjnhhaaGreatDoor
open Go.RowKit
set_option linter.unusedVariables false
set_option linter.unusedSimpArgs false
set_option maxRecDepth 100000

/-- What issued makes: the caveats that may be. -/
def isT (s id : List By) (L : List Cv) : Tk := ⟨3, id, L.filter cvMay, rightT tag s id (L.filter cvMay)⟩
def narT (T : Tk) (c : Cv) : Tk := if cvMay c = true then ⟨T.key, T.id, T.cs ++ [c], tag T.tag (cvB c)⟩ else tk0
def narE (c : Cv) : Int := if cvMay c = true then 0 else 1
theorem isT_yes (s id : List By) (L : List Cv) (c : Cv) (h : cvMay c = true) : isT s id (L ++ [c]) = narT (isT s id L) c := by
  unfold isT narT
  rw [if_pos h, List.filter_append]
  simp only [List.filter_cons, h, List.filter_nil, if_true]
  rw [rightT_snoc]
theorem isT_no (s id : List By) (L : List Cv) (c : Cv) (h : cvMay c = false) : isT s id (L ++ [c]) = isT s id L := by
  unfold isT
  rw [List.filter_append]
  simp [List.filter_cons, h]
def sec1 (s : List By) : Secs := [(3, s)]
theorem sec1_256 {s : List By} (h : s.length ≤ 256) : ∀ i, i < (sec1 s).length → ((sec1 s).getD i (0, [])).2.length ≤ 256
  | 0, _ => h
  | n + 1, h => absurd h (by simp [sec1])
def isBad (id : List By) : Bool := decide (id.length < 1 ∨ 64 < id.length)
def isR (s id : List By) (l : List Cv) : Tk := if isBad id = true then tk0 else isT s id (l.take 32)
def IsdP (s id : List By) (l : List Cv) (w : World) (e : Ending) (w' : World) : Prop := Below w.heap.size w w' ∧ TkA (isR s id l) (.bool (!isBad id)) w e w'
/-- Between two caveats. -/
structure ISL (w : World) (g8 : Nat) (T : Tk) (io : Option Addr) (ic : Nat) (lo : Option Addr) (lc : Nat) (W : World) : Prop where
  bel : Below w.heap.size w W
  res : Row W w.heap.size 40 zTk
  hg : w.heap.size < g8
  t : Row W g8 40 (tkCells T io ic lo lc)
  own : TkO 52 w.heap.size W T io ic lo lc
theorem ISL.keep {w : World} {g8 : Nat} {T : Tk} {io : Option Addr} {ic : Nat} {lo : Option Addr} {lc : Nat} {W W2 : World} (h : ISL w g8 T io ic lo lc W) (hb : Below W.heap.size W W2) : ISL w g8 T io ic lo lc W2 :=
  ⟨h.bel.trans (hb.mono h.bel.size), h.res.below hb h.res.lt, h.hg, h.t.below hb h.t.lt, h.own.keep hb⟩
theorem ISL.take {w : World} {g8 : Nat} {T y : Tk} {io : Option Addr} {ic : Nat} {lo : Option Addr} {lc : Nat} {io' : Option Addr} {ic' : Nat} {lo' : Option Addr} {lc' : Nat} {W W2 : World} (h : ISL w g8 T io ic lo lc W) (hy : TkO 52 w.heap.size W y io' ic' lo' lc') (hr : Row W2 g8 40 ((tkCells T io ic lo lc).take 0 ++ tkCells y io' ic' lo' lc' ++ (tkCells T io ic lo lc).drop (0 + (tkCells y io' ic' lo' lc').length))) (hs : SameBut g8 W W2) : ISL w g8 y io' ic' lo' lc' W2 :=
  have hg := h.hg
  ⟨hs.below h.bel (by omega), h.res.but hs (by omega), h.hg, row_whole hr (by rw [tkCells_len h.own.tag, tkCells_len hy.tag]; exact Nat.le_refl _), hy.but hs h.t (by decide) (by decide)⟩
structure ISQ (W1 : World) (y : Tk) (Ev : Int) (X CC : List Value) (B off m lc i0 : Nat) (L : Nat → Bool) (x33 x34 x35 x36 x37 x38 x39 x32 x40 x41 x11 x12 : Value) (W : World) : Prop where
  x : IQ W1 y Ev (L 6) (L 7) (L 8) (L 10) (L 11) x39 x32 x40 x11 W
  p0 : L 0 = true → x33 = .agg X.toArray
  p1 : L 1 = true → x34 = .slice (some ⟨B, off, none⟩) m lc
  p2 : L 2 = true → x35 = .int .i64 (i0 : Int)
  p3 : L 3 = true → x36 = .pointer (some ⟨B, off + i0 * 5, none⟩)
  p4 : L 4 = true → x37 = .agg CC.toArray
  p5 : L 5 = true → x38 = .agg CC.toArray
  p9 : L 9 = true → x41 = .int .i64 Ev
  p12 : L 12 = true → x12 = .int .i64 Ev
section
variable {W1 : World} {y : Tk} {Ev : Int} {X CC : List Value} {B off m lc i0 : Nat} {L : Nat → Bool} {x33 x34 x35 x36 x37 x38 x39 x32 x40 x41 x11 x12 : Value} {W W2 : World}
theorem ISQ.s0 (h : ISQ W1 y Ev X CC B off m lc i0 L x33 x34 x35 x36 x37 x38 x39 x32 x40 x41 x11 x12 W) : ISQ W1 y Ev X CC B off m lc i0 (upd L 0) (.agg X.toArray) x34 x35 x36 x37 x38 x39 x32 x40 x41 x11 x12 W :=
  ⟨h.x, fun _ => rfl, h.p1, h.p2, h.p3, h.p4, h.p5, h.p9, h.p12⟩
theorem ISQ.s1 (h : ISQ W1 y Ev X CC B off m lc i0 L x33 x34 x35 x36 x37 x38 x39 x32 x40 x41 x11 x12 W) : ISQ W1 y Ev X CC B off m lc i0 (upd L 1) x33 (.slice (some ⟨B, off, none⟩) m lc) x35 x36 x37 x38 x39 x32 x40 x41 x11 x12 W :=
  ⟨h.x, h.p0, fun _ => rfl, h.p2, h.p3, h.p4, h.p5, h.p9, h.p12⟩
theorem ISQ.s6 (h : ISQ W1 y Ev X CC B off m lc i0 L x33 x34 x35 x36 x37 x38 x39 x32 x40 x41 x11 x12 W) {v : Value} (hX : IQ W1 y Ev ((upd L 6) 6) ((upd L 6) 7) ((upd L 6) 8) ((upd L 6) 10) ((upd L 6) 11) v x32 x40 x11 W2) : ISQ W1 y Ev X CC B off m lc i0 (upd L 6) x33 x34 x35 x36 x37 x38 v x32 x40 x41 x11 x12 W2 :=
  ⟨hX, h.p0, h.p1, h.p2, h.p3, h.p4, h.p5, h.p9, h.p12⟩
theorem ISQ.s7 (h : ISQ W1 y Ev X CC B off m lc i0 L x33 x34 x35 x36 x37 x38 x39 x32 x40 x41 x11 x12 W) {v : Value} (hX : IQ W1 y Ev ((upd L 7) 6) ((upd L 7) 7) ((upd L 7) 8) ((upd L 7) 10) ((upd L 7) 11) x39 v x40 x11 W2) : ISQ W1 y Ev X CC B off m lc i0 (upd L 7) x33 x34 x35 x36 x37 x38 x39 v x40 x41 x11 x12 W2 :=
  ⟨hX, h.p0, h.p1, h.p2, h.p3, h.p4, h.p5, h.p9, h.p12⟩
theorem ISQ.s8 (h : ISQ W1 y Ev X CC B off m lc i0 L x33 x34 x35 x36 x37 x38 x39 x32 x40 x41 x11 x12 W) {v : Value} (hX : IQ W1 y Ev ((upd L 8) 6) ((upd L 8) 7) ((upd L 8) 8) ((upd L 8) 10) ((upd L 8) 11) x39 x32 v x11 W2) : ISQ W1 y Ev X CC B off m lc i0 (upd L 8) x33 x34 x35 x36 x37 x38 x39 x32 v x41 x11 x12 W2 :=
  ⟨hX, h.p0, h.p1, h.p2, h.p3, h.p4, h.p5, h.p9, h.p12⟩
theorem ISQ.s10 (h : ISQ W1 y Ev X CC B off m lc i0 L x33 x34 x35 x36 x37 x38 x39 x32 x40 x41 x11 x12 W) {v : Value} (hX : IQ W1 y Ev ((upd L 10) 6) ((upd L 10) 7) ((upd L 10) 8) ((upd L 10) 10) ((upd L 10) 11) x39 x32 x40 v W2) : ISQ W1 y Ev X CC B off m lc i0 (upd L 10) x33 x34 x35 x36 x37 x38 x39 x32 x40 x41 v x12 W2 :=
  ⟨hX, h.p0, h.p1, h.p2, h.p3, h.p4, h.p5, h.p9, h.p12⟩
theorem ISQ.s11 (h : ISQ W1 y Ev X CC B off m lc i0 L x33 x34 x35 x36 x37 x38 x39 x32 x40 x41 x11 x12 W) (hX : IQ W1 y Ev ((upd L 11) 6) ((upd L 11) 7) ((upd L 11) 8) ((upd L 11) 10) ((upd L 11) 11) x39 x32 x40 x11 W2) : ISQ W1 y Ev X CC B off m lc i0 (upd L 11) x33 x34 x35 x36 x37 x38 x39 x32 x40 x41 x11 x12 W2 :=
  ⟨hX, h.p0, h.p1, h.p2, h.p3, h.p4, h.p5, h.p9, h.p12⟩
end
@[reducible] def IISQ (W1 : World) (y : Tk) (Ev : Int) (X CC : List Value) (B off m lc i0 : Nat) (y0 y1 y2 y3 y4 y5 y6 y7 y8 y9 y10 y13 y14 y15 y16 y17 y18 y19 y20 y21 y22 y23 y24 y25 y26 y27 y28 y29 y30 y31 y42 y43 y44 y45 : Value) : (Nat → Bool) → Act → World → Prop := fun L a W => ∃ x33 x34 x35 x36 x37 x38 x39 x32 x40 x41 x11 x12, a = ⟨#[y0, y1, y2, y3, y4, y5, y6, y7, y8, y9, y10, x11, x12, y13, y14, y15, y16, y17, y18, y19, y20, y21, y22, y23, y24, y25, y26, y27, y28, y29, y30, y31, x32, x33, x34, x35, x36, x37, x38, x39, x40, x41, y42, y43, y44, y45], []⟩ ∧ ISQ W1 y Ev X CC B off m lc i0 L x33 x34 x35 x36 x37 x38 x39 x32 x40 x41 x11 x12 W
set_option maxHeartbeats 4000000 in
theorem issued24_any (C : Tok) (s id : List By) (l : List Cv) (w : World) (N M g b : Nat) (vs : List Value) (hk : KgO N M w g b vs (sec1 s)) (hs : s.length ≤ 256) (io : Option Addr) (ic : Nat) (hi : IsB w io id) (hic : id.length ≤ ic) (hin : io = none → ic = 0) (hib : id.length ≤ 140737488351232) (lo : Option Addr) (lc : Nat) (hl : CvsIn w lo l) (hok : ∀ c ∈ l, c.ok) (hlb : l.length ≤ 140737488351232) :
    Calls Tryz.prog 18 #[.pointer (some ⟨g, 0, none⟩), .slice io id.length ic, .slice lo l.length lc] w (IsdP s id l w) := by
  have HC : Hid Tok := C
  obtain ⟨W1, hW1⟩ : ∃ W1, W1 = w.alloc (.cells zTk.toArray 40) := ⟨_, rfl⟩
  have b1 : Below w.heap.size w W1 := by rw [hW1]; exact (Below.refl _ _).alloc (Nat.le_refl _) _
  have r1 : Row W1 w.heap.size 40 zTk := by rw [hW1]; exact zRow w
  have s1 : W1.heap.size = w.heap.size + 1 := by rw [hW1]; simp
  have IS0 := C.issue N M W1 g b vs (sec1 s) (hk.below b1) (sec1_256 hs) 3 io ic id (hi.below b1 (Nat.le_refl _)) hic hin hib
  have HCI : Hid (∀ W, Below w.heap.size w W → CvsIn W lo l) := fun W h => hl.keep h
  have HOK : Hid (∀ c ∈ l, c.ok) := hok
  have HLB : Hid (l.length ≤ 140737488351232) := hlb
  have HB1 : Hid (Below w.heap.size w W1 ∧ Row W1 w.heap.size 40 zTk ∧ W1.heap.size = w.heap.size + 1) := ⟨b1, r1, s1⟩
  clear hk hi hic hin hib hl hok hlb C b1 r1 s1
  cases hbad : isBad id with
  | true =>
    have hbp : id.length < 1 ∨ 64 < id.length := of_decide_eq_true hbad
    have IS : Calls Tryz.prog 10 #[.pointer (some ⟨g, 0, none⟩), .int .i64 3, .slice io id.length ic] W1 fun e w' => Below W1.heap.size W1 w' ∧ TkA tk0 (.int .i64 4) W1 e w' := IS0.mono fun e w' ⟨h1, h2⟩ => ⟨h1, by rw [if_neg (by simp [sec1, fnd]), if_pos hbp] at h2; exact h2⟩
    have HR : Hid (isR s id l = tk0 ∧ isBad id = true) := ⟨if_pos hbad, hbad⟩
    clear IS0 hbp hbad
    generalize id.length = n at *
    go_enter Tryz.func18, Tryz.ntmps18
    refine wp_seq_k fun K hK => ?_
    have HK : Hid _ := hK
    clear hK
    go_wp2
    refine HK.out _ _ ?_
    clear HK
    refine wp_at24 hW1 ?_
    clear hW1
    go_wp2_with fail
    refine IS.mono ?_
    clear IS
    rintro e w2 ⟨hb2, io2, ic2, lo2, lc2, rfl, ho2⟩
    dsimp only
    have HO2 : Hid (TkO 52 W1.heap.size w2 tk0 io2 ic2 lo2 lc2) := ho2
    have HB2 : Hid (Below w.heap.size w w2 ∧ Row w2 w.heap.size 40 zTk) := ⟨HB1.out.1.trans (hb2.mono HB1.out.1.size), HB1.out.2.1.below hb2 HB1.out.2.1.lt⟩
    clear hb2 ho2
    go_wp2_with (first
      | (have hz := HO2; clear hz; refine wpList_store_Row rfl 40 (.tmp 8) (.tmp 17) rfl w2.heap.size 40 0 zTk (tkCells tk0 io2 ic2 lo2 lc2) (zRow w2) (by rw [tkCells_len HO2.out.tag]; exact Nat.le_refl _) rfl rfl (by rw [tkCells_len HO2.out.tag]; kernel_rfl) (tkCells_one _ _ _ _ _) ?_; intro w3 hr hs; have HR2 : Hid (TkR W1.heap.size w3 w2.heap.size tk0 io2 ic2 lo2 lc2 ∧ Below w2.heap.size w2 w3) := tkR_lay HO2.out hr hs; clear HO2 hr hs)
      | (have hz := HR2; clear hz; have HB3 : Hid (Below w.heap.size w w3 ∧ Row w3 w.heap.size 40 zTk) := ⟨HB2.out.1.trans (HR2.out.2.mono HB2.out.1.size), HB2.out.2.below HR2.out.2 HB2.out.2.lt⟩; have HX3 : Hid (TkR W1.heap.size w3 w2.heap.size tk0 io2 ic2 lo2 lc2) := HR2.out.1; clear HR2 HB2)
      | (have hz := HX3; clear hz; refine wpList_load_Row rfl 40 (.tmp 8) rfl w2.heap.size 40 (tkCells tk0 io2 ic2 lo2 lc2) HX3.out.row rfl _ Tryz.underlying40 rfl (by rw [tkCells_len HX3.out.own.tag]; kernel_rfl) ?_)
      | (have hz := HB3; clear hz; refine wpList_store_Row rfl 40 (.tmp 6) (.tmp 21) rfl w.heap.size 40 0 zTk (tkCells tk0 io2 ic2 lo2 lc2) HB3.out.2 (Nat.le_refl _) rfl rfl (by kernel_rfl) (tkCells_one _ _ _ _ _) ?_; intro w4 hr4 hs4))
    have q4 := row_whole hr4 (Nat.le_refl _)
    refine bodyPost_ret_by (results_rowtmp Tryz.results18 _ w4 w.heap.size 40 _ _ rfl q4 Tryz.underlying40 rfl (by kernel_rfl)) rfl ?_
    refine ⟨hs4.below HB3.out.1 (Nat.le_refl _), ?_⟩
    rw [HR.out.1, HR.out.2]
    exact ⟨io2, ic2, lo2, lc2, rfl, (HX3.out.own.but hs4 HB3.out.2 (by decide) (by decide)).low (by have := HB1.out.2.2; omega)⟩
  | false =>
    have hbp : ¬ (id.length < 1 ∨ 64 < id.length) := of_decide_eq_false hbad
    have IS : Calls Tryz.prog 10 #[.pointer (some ⟨g, 0, none⟩), .int .i64 3, .slice io id.length ic] W1 fun e w' => Below W1.heap.size W1 w' ∧ TkA (isT s id []) (.int .i64 0) W1 e w' := IS0.mono fun e w' ⟨h1, h2⟩ => ⟨h1, by rw [if_neg (by simp [sec1, fnd]), if_neg hbp] at h2; exact h2⟩
    have HR : Hid (isR s id l = isT s id (l.take 32) ∧ isBad id = false) := ⟨if_neg (by rw [hbad]; exact Bool.noConfusion), hbad⟩
    clear IS0 hbp hbad
    generalize hn : id.length = n at *
    obtain ⟨m, hm⟩ : ∃ m, l.length = m := ⟨_, rfl⟩
    have HM : Hid (l.length = m) := hm
    have HML : Hid (m ≤ 140737488351232) := by show m ≤ _; rw [← hm]; exact HLB.out
    rw [hm]
    clear hm HLB hn
    go_enter Tryz.func18, Tryz.ntmps18
    refine wp_seq_k fun K hK => ?_
    have HK : Hid _ := hK
    clear hK
    go_wp2
    refine HK.out _ _ ?_
    clear HK
    refine wp_at24 hW1 ?_
    clear hW1
    go_wp2_with fail
    refine IS.mono ?_
    clear IS
    rintro e w2 ⟨hb2, io2, ic2, lo2, lc2, rfl, ho2⟩
    dsimp only
    have HO2 : Hid (TkO 52 W1.heap.size w2 (isT s id []) io2 ic2 lo2 lc2) := ho2
    have HB2 : Hid (Below w.heap.size w w2 ∧ Row w2 w.heap.size 40 zTk ∧ w.heap.size < w2.heap.size) := ⟨HB1.out.1.trans (hb2.mono HB1.out.1.size), HB1.out.2.1.below hb2 HB1.out.2.1.lt, by have := HB1.out.2.2; have := hb2.size; omega⟩
    clear hb2 ho2
    go_wp2_with (first
      | (have hz := HO2; clear hz; refine wpList_store_Row rfl 40 (.tmp 8) (.tmp 17) rfl w2.heap.size 40 0 zTk (tkCells (isT s id []) io2 ic2 lo2 lc2) (zRow w2) (by rw [tkCells_len HO2.out.tag]; exact Nat.le_refl _) rfl rfl (by rw [tkCells_len HO2.out.tag]; kernel_rfl) (tkCells_one _ _ _ _ _) ?_; intro w3 hr hs; have HR2 : Hid (TkR W1.heap.size w3 w2.heap.size (isT s id []) io2 ic2 lo2 lc2 ∧ Below w2.heap.size w2 w3) := tkR_lay HO2.out hr hs; clear HO2 hr hs)
      | (have hz := HR2; clear hz; have HS3 : Hid (ISL w w2.heap.size (isT s id []) io2 ic2 lo2 lc2 w3) := ⟨HB2.out.1.trans (HR2.out.2.mono HB2.out.1.size), HB2.out.2.1.below HR2.out.2 HB2.out.2.1.lt, HB2.out.2.2, HR2.out.1.row, HR2.out.1.own.low (by have := HB1.out.2.2; omega)⟩; clear HR2 HB2))
    generalize w2.heap.size = G8 at *
    go_loopw [10] (fun iv wr => ∃ (i : Nat) (jo : Option Addr) (jc : Nat) (ko : Option Addr) (kc : Nat), i ≤ m ∧ i ≤ 32 ∧ iv = .int .i64 (i : Int) ∧ Hid (ISL w G8 (isT s id (l.take i)) jo jc ko kc wr)) (fun iv _ => m - (intOf iv).toNat)
    case atStart => exact ⟨0, io2, ic2, lo2, lc2, by omega, by omega, rfl, HS3⟩
    case round =>
      clear HS3
      obtain ⟨i, io4, ic4, lo4, lc4, hi, hi32, rfl, HI⟩ := hrel
      by_cases hlt : i < m ∧ i < 32
      · have y0 : (0 : Int) ≤ (i : Int) := by omega
        have y1 : (i : Int) < (m : Int) := by omega
        have y2 : (i : Int) < 32 := by omega
        have z1 : IntKind.i64.wrap ((i : Int) + 1) = (i : Int) + 1 := i64_in _ (by omega) (by omega)
        obtain ⟨c, hc⟩ : ∃ c, l[i]? = some c := ⟨_, List.getElem?_eq_getElem (by rw [HM.out]; exact hlt.1)⟩
        obtain ⟨B, off, hlo, hBs, hr⟩ := HCI.out wr HI.out.bel i c hc
        subst hlo
        have hck := HOK.out c (List.mem_of_getElem? hc)
        have HTK : Hid (l.take (i + 1) = l.take i ++ [c]) := flat_take l i c hc
        have HLN : Hid ((isT s id (l.take i)).cs.length ≤ i) := by
          show (List.filter cvMay (l.take i)).length ≤ i
          exact Nat.le_trans (List.length_filter_le _ _) (by rw [List.length_take]; omega)
        have HLT : Hid (i < m ∧ i < 32) := hlt
        obtain ⟨T0, hT0⟩ : ∃ T0, T0 = isT s id (l.take i) := ⟨_, rfl⟩
        have HT0 : Hid (T0 = isT s id (l.take i)) := hT0
        rw [← hT0] at HI HLN
        have RC : Hid (∀ W, Below wr.heap.size wr W → W.rangeAt B (off + i * 5) (cvC c)) := fun W h j v hv => by rw [← hr j v hv]; exact h.cell (p := ⟨B, off + i * 5 + j, none⟩) hBs
        have NRC : Hid (∀ W, Below wr.heap.size wr W → Calls Tryz.prog 15 #[.agg (tkCells T0 io4 ic4 lo4 lc4).toArray, .agg (cvC c).toArray] W fun e w' => Below W.heap.size W w' ∧ TkA (narT T0 c) (.int .i64 (narE c)) W e w') := fun W h => (HC.out.narrow T0 c io4 ic4 lo4 lc4 W ((HI.out.keep h).own.v) (by have := HLN.out; omega) hck).mono fun e w' ⟨h1, h2⟩ => ⟨h1, by
          rw [if_neg (by have := HLN.out; omega)] at h2
          unfold narT narE
          by_cases h9 : cvMay c = true
          · rw [if_pos h9] at h2 ⊢; rw [if_pos h9]; exact h2
          · rw [if_neg h9] at h2 ⊢; rw [if_neg h9]; exact h2⟩
        have LC5 : Hid ((cvC c).length = 5) := rfl
        have CD5 : Hid (((cvC c).drop 0).take 5 = cvC c) := rfl
        have CVC : Hid (∀ W, Calls Tryz.prog 16 #[.agg (cvC c).toArray] W fun e w' => e = .returned (.agg (cvC c).toArray) ∧ Below W.heap.size W w') := fun W => l24caveat_any c W
        obtain ⟨X, hX0⟩ : ∃ X, X = tkCells T0 io4 ic4 lo4 lc4 := ⟨_, rfl⟩
        rw [← hX0] at NRC
        have LX : Hid (X.length = 35) := by rw [hX0]; exact tkC_len HI.out.own.tag
        have XP : Hid ((X.drop 0).take 35 = X) := by show _ = _; rw [List.drop_zero, List.take_of_length_le (by rw [LX.out]; exact Nat.le_refl _)]
        have RX : Hid (∀ W, Below wr.heap.size wr W → Row W G8 40 X) := fun W h => by rw [hX0]; exact HI.out.t.below h HI.out.t.lt
        have HY32 : Hid ((narT T0 c).tag.length = 32) := by
          show _ = _
          unfold narT
          by_cases h9 : cvMay c = true
          · rw [if_pos h9]; exact tag_len _ _
          · rw [if_neg h9]; rfl
        obtain ⟨y, hy⟩ : ∃ y, y = narT T0 c := ⟨_, rfl⟩
        have HYY : Hid (y = narT T0 c) := hy
        rw [← hy] at NRC HY32
        obtain ⟨Ev, hEv⟩ : ∃ Ev, Ev = narE c := ⟨_, rfl⟩
        have HEV : Hid (Ev = narE c) := hEv
        rw [← hEv] at NRC
        clear hX0 hc hr hBs hi hi32 hlt hT0 hck hy hEv
        generalize cvC c = CC at *
        go_upto_region 7 with fail
        refine wp_region_inv (IISQ wr y Ev X CC B off m lc i _ _ _ _ _ _ _ _ _ _ _ _ _ _ _ _ _ _ _ _ _ _ _ _ _ _ _ _ _ _ _ _ _ _) (by kernel_rfl) (by kernel_rfl) ⟨_, _, _, _, _, _, _, _, _, _, _, _, rfl, ⟨IQ.zero _ _ _ _ _ _ _, fun k => (by cases k), fun k => (by cases k), fun k => (by cases k), fun k => (by cases k), fun k => (by cases k), fun k => (by cases k), fun k => (by cases k), fun k => (by cases k)⟩⟩ ?_ ?_
        · refine .cons ?_ (.cons ?_ (.cons ?_ (.cons ?_ (.cons ?_ (.cons ?_ (.cons ?_ (.cons ?_ (.cons ?_ (.cons ?_ (.cons ?_ (.cons ?_ (.cons ?_ .nil))))))))))))
          all_goals (rintro L _ W ⟨x33, x34, x35, x36, x37, x38, x39, x32, x40, x41, x11, x12, rfl, hI⟩ hL hd K hK)
          · refine step_load_part (by rfl) 40 _ rfl G8 0 40 35 X (RX.out W hI.x.bel) rfl _ X XP.out LX.out Tryz.underlying40 rfl (by kernel_rfl) ?_
            exact hK.out _ _ ⟨_, _, _, _, _, _, _, _, _, _, _, _, rfl, { hI with p0 := fun _ => rfl }⟩
          · rw [if_pos (by rfl)]
            go_simp
            exact hK.out _ _ ⟨_, _, _, _, _, _, _, _, _, _, _, _, rfl, { hI with p1 := fun _ => rfl }⟩
          · rw [if_pos (by rfl)]
            go_simp
            exact hK.out _ _ ⟨_, _, _, _, _, _, _, _, _, _, _, _, rfl, { hI with p2 := fun _ => rfl }⟩
          · obtain rfl := hI.p1 (hd 1 (by decide))
            obtain rfl := hI.p2 (hd 2 (by decide))
            rw [if_pos (by rfl)]
            go_simp
            exact hK.out _ _ ⟨_, _, _, _, _, _, _, _, _, _, _, _, rfl, { hI with p3 := fun _ => rfl }⟩
          · obtain rfl := hI.p3 (hd 3 (by decide))
            refine step_load_rng (by rfl) 50 _ rfl B (off + i * 5) CC (RC.out _ hI.x.bel) rfl _ Tryz.underlying50 rfl (by rw [LC5.out]; kernel_rfl) ?_
            exact hK.out _ _ ⟨_, _, _, _, _, _, _, _, _, _, _, _, rfl, { hI with p4 := fun _ => rfl }⟩
          · obtain rfl := hI.p4 (hd 4 (by decide))
            rw [if_pos (by rfl)]
            go_simp
            refine (CVC.out W).mono ?_
            rintro e W2 ⟨rfl, hb9⟩
            go_simp
            have hX := hI.x.keep hb9
            exact hK.out _ _ ⟨_, _, _, _, _, _, _, _, _, _, _, _, rfl, { hI with x := hX, p5 := fun _ => rfl }⟩
          · obtain rfl := hI.p0 (hd 0 (by decide))
            obtain rfl := hI.p5 (hd 5 (by decide))
            rw [if_pos (by rfl)]
            go_simp
            refine (NRC.out W hI.x.bel).mono ?_
            rintro e W2 ⟨hb9, io9, ic9, lo9, lc9, rfl, ho9⟩
            go_simp
            have hX := hI.x.s6 hL hb9 ho9 (q' := true) rfl
            exact hK.out _ _ ⟨_, _, _, _, _, _, _, _, _, _, _, _, rfl, { hI with x := hX }⟩
          · rw [if_pos (by rfl)]
            have hX := hI.x.s7 (hd 6 (by decide)) (q' := true) rfl
            go_simp
            exact hK.out _ _ ⟨_, _, _, _, _, _, _, _, _, _, _, _, rfl, { hI with x := hX }⟩
          · obtain ⟨io9, ic9, lo9, lc9, u1, u2, e32, u3⟩ := hI.x.v (hI.x.c7 (hd 7 (by decide)))
            have e33 := e32 (hd 7 (by decide))
            clear u1 u2 u3 e32
            have hX := hI.x.s8 (hd 7 (by decide)) e33 (q' := true) rfl
            subst e33
            rw [if_pos (by rfl)]
            go_simp
            exact hK.out _ _ ⟨_, _, _, _, _, _, _, _, _, _, _, _, rfl, { hI with x := hX }⟩
          · rw [if_pos (by rfl)]
            obtain ⟨io9, ic9, lo9, lc9, u1, u2, e32, u3⟩ := hI.x.v (hI.x.c7 (hd 7 (by decide)))
            have e33 := e32 (hd 7 (by decide))
            clear u1 u2 u3 e32
            subst e33
            go_simp
            exact hK.out _ _ ⟨_, _, _, _, _, _, _, _, _, _, _, _, rfl, { hI with p9 := fun _ => rfl }⟩
          · rw [if_pos (by rfl)]
            have hX := hI.x.s10 hL (q' := true) rfl
            go_simp
            exact hK.out _ _ ⟨_, _, _, _, _, _, _, _, _, _, _, _, rfl, { hI with x := hX }⟩
          · have h8 := hd 8 (by decide)
            have h10 := hd 10 (by decide)
            obtain ⟨io9, ic9, lo9, lc9, _, _, _, e40, _⟩ := hI.x.v (hI.x.c7 (hI.x.c8 h8))
            have e41 := e40 h8
            obtain ⟨g9, e11, hg9, hr9⟩ := hI.x.a h10 hL
            refine step_store_Row rfl 40 (.tmp 11) (.tmp 40) rfl g9 40 zTk (tkCells y io9 ic9 lo9 lc9) hr9 (by rw [tkCells_len HY32.out]; rfl) e11 e41 (by rw [tkCells_len HY32.out]; kernel_rfl) (tkCells_one _ _ _ _ _) ?_
            intro W2 hr2 hs2
            have hX := hI.x.s11 h8 h10 e41 e11 hg9 hr9 hr2 hs2 (q' := true) rfl
            exact hK.out _ _ ⟨_, _, _, _, _, _, _, _, _, _, _, _, rfl, { hI with x := hX }⟩
          · obtain rfl := hI.p9 (hd 9 (by decide))
            rw [if_pos (by rfl)]
            go_simp
            exact hK.out _ _ ⟨_, _, _, _, _, _, _, _, _, _, _, _, rfl, { hI with p12 := fun _ => rfl }⟩
        · rintro L _ W hall ⟨x33, x34, x35, x36, x37, x38, x39, x32, x40, x41, x11, x12, rfl, hI⟩
          obtain rfl := hI.p0 (hall 0 (by decide))
          obtain rfl := hI.p1 (hall 1 (by decide))
          obtain rfl := hI.p2 (hall 2 (by decide))
          obtain rfl := hI.p3 (hall 3 (by decide))
          obtain rfl := hI.p4 (hall 4 (by decide))
          obtain rfl := hI.p5 (hall 5 (by decide))
          obtain rfl := hI.p9 (hall 9 (by decide))
          obtain rfl := hI.p12 (hall 12 (by decide))
          have hXe := hI.x
          rw [hall 6 (by decide)] at hXe
          rw [hall 7 (by decide)] at hXe
          rw [hall 8 (by decide)] at hXe
          rw [hall 10 (by decide)] at hXe
          rw [hall 11 (by decide)] at hXe
          clear hI hall
          try dsimp only
          obtain ⟨jo, jc, ko, kc, ho7, _, _, h40, h11⟩ := hXe.v (hXe.c7 (hXe.c8 (hXe.c11 rfl).1))
          obtain ⟨g7, e11, hg7, hr7⟩ := h11 rfl
          have hbel := hXe.bel
          have HI7 : Hid (ISL w G8 T0 io4 ic4 lo4 lc4 W) := HI.out.keep hbel
          have HO7 : Hid (TkO 52 w.heap.size W y jo jc ko kc) := ho7.low HI.out.bel.size
          have HR7 : Hid (Row W g7 40 (tkCells y jo jc ko kc)) := hr7
          clear hXe h40 h11 ho7 hr7 hbel HI
          subst e11
          by_cases h9 : cvMay c = true
          · have e9 : Ev = 0 := by rw [HEV.out]; exact if_pos h9
            have HNX : Hid (isT s id (l.take (i + 1)) = y) := by show _ = _; rw [HTK.out, isT_yes _ _ _ _ h9, ← HT0.out, HYY.out]
            have T8 : Hid ((tkCells T0 io4 ic4 lo4 lc4).length = 35) := tkC_len HI7.out.own.tag
            clear h9 HYY HEV HT0
            subst e9
            go_wp2_with (first
              | (have hz := HR7; clear hz; refine wpList_load_Row rfl 40 (.tmp 11) rfl g7 40 (tkCells y jo jc ko kc) HR7.out rfl _ Tryz.underlying40 rfl (by rw [tkCells_len HY32.out]; kernel_rfl) ?_; clear HR7)
              | (have hz := HI7; clear hz; refine wpList_store_Row rfl 40 (.tmp 8) (.tmp 44) rfl G8 40 0 (tkCells T0 io4 ic4 lo4 lc4) (tkCells y jo jc ko kc) HI7.out.t (by rw [tkCells_len HY32.out, T8.out]; exact Nat.le_refl _) rfl rfl (by rw [tkCells_len HY32.out]; kernel_rfl) (tkCells_one _ _ _ _ _) ?_; intro w8 hr8 hs8; have HI8 : Hid (ISL w G8 y jo jc ko kc w8) := HI7.out.take HO7.out hr8 hs8; clear HI7 hr8 hs8))
            exact ⟨⟨i + 1, jo, jc, ko, kc, HLT.out.1, HLT.out.2, by go_num, by rw [HNX.out]; exact HI8⟩, by have := HLT.out; simp [intOf]; omega⟩
          · have e9 : Ev = 1 := by rw [HEV.out]; exact if_neg h9
            have HNX : Hid (isT s id (l.take (i + 1)) = T0) := by show _ = _; rw [HTK.out, isT_no _ _ _ _ (by simpa using h9), ← HT0.out]
            clear h9 HYY HEV HT0
            subst e9
            go_wp2
            exact ⟨⟨i + 1, io4, ic4, lo4, lc4, HLT.out.1, HLT.out.2, by go_num, by rw [HNX.out]; exact HI7⟩, by have := HLT.out; simp [intOf]; omega⟩
      · have HTK : Hid (l.take i = l.take 32) := by
          show _ = _
          by_cases h9 : i < m
          · rw [show i = 32 by omega]
          · rw [List.take_of_length_le (by rw [HM.out]; omega), List.take_of_length_le (by rw [HM.out]; omega)]
        have HI2 : Hid (ISL w G8 (isT s id (l.take 32)) io4 ic4 lo4 lc4 wr) := by rw [← HTK.out]; exact HI.out
        obtain ⟨r1, hr1⟩ : ∃ r : Bool, r = decide ((i : Int) < (m : Int)) := ⟨_, rfl⟩
        have T8 : Hid ((tkCells (isT s id (l.take 32)) io4 ic4 lo4 lc4).length = 35) := tkC_len HI2.out.own.tag
        have TL : Hid (ISL w G8 (isT s id (l.take 32)) io4 ic4 lo4 lc4 wr) := HI2
        clear HI HTK
        by_cases h9 : i < m
        · have y1 : (i : Int) < (m : Int) := by omega
          have y2 : ¬ (i : Int) < 32 := by omega
          clear hr1 hlt h9
          go_wp2_with (first
            | (have hz := TL; clear hz; refine wpList_load_Row rfl 40 (.tmp 8) rfl G8 40 (tkCells (isT s id (l.take 32)) io4 ic4 lo4 lc4) TL.out.t rfl _ Tryz.underlying40 rfl (by rw [T8.out]; kernel_rfl) ?_; clear TL)
            | (refine wpList_store_Row rfl 40 (.tmp 6) (.tmp 45) rfl w.heap.size 40 0 zTk (tkCells (isT s id (l.take 32)) io4 ic4 lo4 lc4) HI2.out.res (by rw [T8.out]; exact Nat.le_refl _) rfl rfl (by rw [T8.out]; kernel_rfl) (tkCells_one _ _ _ _ _) ?_; intro w9 hr9 hs9))
          have q9 := row_whole hr9 (by rw [T8.out]; exact Nat.le_refl _)
          refine bodyPost_ret_by (results_rowtmp Tryz.results18 _ w9 w.heap.size 40 _ _ rfl q9 Tryz.underlying40 rfl (by rw [T8.out]; kernel_rfl)) rfl ?_
          refine ⟨hs9.below HI2.out.bel (Nat.le_refl _), ?_⟩
          rw [HR.out.1, HR.out.2]
          exact ⟨io4, ic4, lo4, lc4, rfl, HI2.out.own.but hs9 HI2.out.res (by decide) (by decide)⟩
        · have y1 : ¬ (i : Int) < (m : Int) := by omega
          clear hr1 hlt h9
          go_wp2_with (first
            | (have hz := TL; clear hz; refine wpList_load_Row rfl 40 (.tmp 8) rfl G8 40 (tkCells (isT s id (l.take 32)) io4 ic4 lo4 lc4) TL.out.t rfl _ Tryz.underlying40 rfl (by rw [T8.out]; kernel_rfl) ?_; clear TL)
            | (refine wpList_store_Row rfl 40 (.tmp 6) (.tmp 45) rfl w.heap.size 40 0 zTk (tkCells (isT s id (l.take 32)) io4 ic4 lo4 lc4) HI2.out.res (by rw [T8.out]; exact Nat.le_refl _) rfl rfl (by rw [T8.out]; kernel_rfl) (tkCells_one _ _ _ _ _) ?_; intro w9 hr9 hs9))
          have q9 := row_whole hr9 (by rw [T8.out]; exact Nat.le_refl _)
          refine bodyPost_ret_by (results_rowtmp Tryz.results18 _ w9 w.heap.size 40 _ _ rfl q9 Tryz.underlying40 rfl (by rw [T8.out]; kernel_rfl)) rfl ?_
          refine ⟨hs9.below HI2.out.bel (Nat.le_refl _), ?_⟩
          rw [HR.out.1, HR.out.2]
          exact ⟨io4, ic4, lo4, lc4, rfl, HI2.out.own.but hs9 HI2.out.res (by decide) (by decide)⟩
end Go.Proofs.YtjooabgjkjnhhaaGreatDoor
