
import Derived.Test.YtdfbfheceobboaaDoorP25Je
/-! The code's patch: one patch's parts told through another's. -/
namespace Go.Proofs.YtdfbfheceobboaaDoor
open Go.RowKit
set_option linter.unusedVariables false
set_option linter.unusedSimpArgs false
set_option maxRecDepth 100000

/-- A part joined, whatever it is. -/
theorem cjoin_any (S : Nat → Prop) (N K0 bef : Nat) (w : World) (l : List Pt) (lo : Option Addr) (lc : Nat) (x : Pt) (v : Value) (h : OuR S N w l lo lc) (hl : l.length ≤ 999999) (hy : ∀ y ∈ l, PtR bef y) (hs : sumN l ≤ 524288) (hbef : bef ≤ 524288) (hx : PtR bef x) (hxn : x.n ≤ 524288) (hv : PaV K0 w x v) : Calls Tryd.prog 30 #[.slice lo l.length lc, v] w (JnP S N w (joinP l x)) := by
  obtain ⟨xlay, xf, xn, xb⟩ := x
  have hpos : 1 ≤ xn := hx.pos
  simp only at hxn
  have hcase : l = [] ∨ ∃ m a, l = m ++ [a] := by
    cases hh : l.getLast? with
    | none => exact .inl (List.getLast?_eq_none_iff.1 hh)
    | some a => obtain ⟨m, e⟩ := List.getLast?_eq_some_iff.1 hh; exact .inr ⟨m, a, e⟩
  rcases hv.eq with ⟨e1, e2⟩ | ⟨e1, B2, off2, c2, e2, hi, hb, hc, hB⟩
  · simp only at e1 e2
    subst e1; subst e2
    obtain ⟨q1, q2⟩ := hx.cpy rfl
    simp only at q1 q2
    subst q1
    rcases hcase with e | ⟨m, a, e⟩
    · exact cjoinS_nil S N w l e lo lc xf xn h hpos hxn (by omega)
    · subst e
      have ha := hy a (by simp)
      obtain ⟨alay, fa, na, ab⟩ := a
      have hap : 1 ≤ na := ha.pos
      have has : na ≤ 524288 := by
        rw [sumN_app, sumN_cons, sumN_nil] at hs
        simp only at hs
        omega
      rw [List.length_append] at hl ⊢
      cases alay with
      | false => exact cjoinS_S S N w m false fa na ab lo lc xf xn h (by simp at hl; omega) rfl ⟨hap, has⟩ (by have := (ha.cpy rfl).2; simp only at this; omega) hpos hxn (by omega)
      | true => exact cjoinS_L S N w m true fa na ab lo lc xf xn h (by simp at hl; omega) rfl ⟨hap, has⟩ (by have := (ha.lay rfl).2; simp only at this; omega) hpos hxn (by omega)
  · simp only at e1 e2 hi hb hc
    subst e1; subst e2
    obtain ⟨q1, q2⟩ := hx.lay rfl
    simp only at q1 q2
    subst q2
    rcases hcase with e | ⟨m, a, e⟩
    · exact cjoinL_nil S N w l e lo lc B2 off2 xn c2 xb h hpos hxn hb hi
    · subst e
      have ha := hy a (by simp)
      obtain ⟨alay, fa, na, ab⟩ := a
      have hap : 1 ≤ na := ha.pos
      have has : na ≤ 524288 := by
        rw [sumN_app, sumN_cons, sumN_nil] at hs
        simp only at hs
        omega
      rw [List.length_append] at hl ⊢
      cases alay with
      | false => exact cjoinL_S S N w m false fa na ab lo lc B2 off2 xn c2 xb h (by simp at hl; omega) rfl ⟨hap, has⟩ (by have := (ha.cpy rfl).2; simp only at this; omega) hpos hxn hb hi
      | true => exact cjoinL_L S N w m true fa na ab lo lc B2 off2 xn c2 xb h (by simp at hl; omega) rfl ⟨hap, has⟩ (by have := (ha.lay rfl).2; simp only at this; omega) hpos hxn hb hi
theorem JFr.below {S : Nat → Prop} {N : Nat} {W W2 : World} (h : JFr S W W2) (hS : ∀ k, S k → N ≤ k) (hN : N ≤ W.heap.size) : Below N W W2 :=
  ⟨h.bel.os, h.bel.tape, h.bel.output, h.bel.size, fun k hk => h.oth k (by omega) (fun hs => by have := hS k hs; omega)⟩
theorem PaQ.jfr {M N : Nat} {S : Nat → Prop} {W W2 : World} {l : List Pt} {lo : Option Addr} {lc : Nat} (h : PaQ M N W l lo lc) (hj : JFr S W W2) (hS : ∀ k, S k → N ≤ k) (hP : ∀ g, lo = some ⟨g, 0, none⟩ → ¬ S g) : PaQ M N W2 l lo lc := by
  obtain ⟨vs, h1, h2, h3⟩ := h.vs
  exact ⟨h.le, Nat.le_trans h.sz hj.bel.size, vs, h1, own_keepL h2 fun B e => hj.oth B (by subst e; exact (h2.lt B rfl).2) (hP B e), fun i y v hi hv => (h3 i y v hi hv).keep (hj.below hS (Nat.le_trans h.le h.sz))⟩
/-- Joined parts of a patch that comes out. -/
structure ThS (bef : Nat) (l : List Pt) : Prop where
  y : ∀ y ∈ l, PtR bef y
  b : Beh l
  s : sumN l ≤ 524288
theorem ThS.len {bef : Nat} {l : List Pt} (h : ThS bef l) : l.length ≤ 524288 := Nat.le_trans (len_le_sum fun y hy => (h.y y hy).pos) h.s
theorem foldl_take {α β : Type} (f : β → α → β) (b : β) {l : List α} {i : Nat} {x : α} (h : l[i]? = some x) : (l.take (i + 1)).foldl f b = f ((l.take i).foldl f b) x := by
  rw [List.take_add_one, h, List.foldl_append]; rfl
def ThrP (w : World) (l : List Pt) (e : Ending) (w' : World) : Prop := ∃ S N lo lc, e = .returned (.slice lo l.length lc) ∧ OuR S N w' l lo lc ∧ w.heap.size ≤ N ∧ Below w.heap.size w w'
set_option maxHeartbeats 2000000 in
theorem cthrough_any (N0 N2 bef : Nat) (w : World) (l1 : List Pt) (lo1 : Option Addr) (lc1 : Nat) (l2 : List Pt) (lo2 : Option Addr) (lc2 : Nat) (hN : N0 ≤ w.heap.size) (h1 : PaR N0 w l1 lo1 lc1) (h2 : PaR N2 w l2 lo2 lc2) (hy1 : ∀ y ∈ l1, PtR bef y) (hbef : bef ≤ 524288) (hs1 : sumN l1 ≤ 524288) (hy2 : ∀ y ∈ l2, PtR (sumN l1) y) (hs2 : sumN l2 ≤ 524288) :
    Calls Tryd.prog 16 #[.slice lo1 l1.length lc1, .slice lo2 l2.length lc2] w (ThrP w (through l1 l2)) := by
  have hn1 : l1.length ≤ 524288 := Nat.le_trans (len_le_sum fun y hy => (hy1 y hy).pos) hs1
  have hn2 : l2.length ≤ 524288 := Nat.le_trans (len_le_sum fun y hy => (hy2 y hy).pos) hs2
  have FE := cends_any N0 w l1 lo1 lc1 h1 hs1 hn1
  have HP : Hid (∀ W, Below w.heap.size w W → PaR N0 W l1 lo1 lc1 ∧ PaR N2 W l2 lo2 lc2) := fun W hW => ⟨h1.keep hW, h2.keep hW⟩
  have HD : Hid ((∀ y ∈ l1, PtR bef y) ∧ (∀ y ∈ l2, PtR (sumN l1) y) ∧ N0 ≤ w.heap.size) := ⟨hy1, hy2, hN⟩
  have HTS : Hid (∀ i, i ≤ l2.length → ThS bef ((l2.take i).foldl (thrP l1) [])) := fun i hi => by
    obtain ⟨k1, k2, k3, _⟩ := through_right hy1 (l2.take i) [] (by simp) beh_nil (fun x hx => hy2 x (List.mem_of_mem_take hx))
    have := sumN_take_le l2 i
    exact ⟨k1, k2, by rw [k3, sumN_nil]; omega⟩
  clear h1 h2 hy1 hy2
  go_enter Tryd.func16, Tryd.ntmps16
  go_wp2_with fail
  refine FE.mono ?_
  rintro e w1 ⟨E, rfl, hen⟩
  have HE : Hid (Below w.heap.size w w1 ∧ Row w1 E 3 (endsTo l1 l1.length l1.length)) := ⟨hen.bel, hen.row⟩
  clear hen FE
  dsimp only
  go_wp2
  have HK : Hid (∀ W, Below w1.heap.size w1 W → PaR N0 W l1 lo1 lc1 ∧ PaR N2 W l2 lo2 lc2 ∧ Row W E 3 (endsTo l1 l1.length l1.length) ∧ N0 ≤ W.heap.size) := fun W hW => by
    have hb : Below w.heap.size w W := HE.out.1.trans (hW.mono HE.out.1.size)
    exact ⟨(HP.out W hb).1, (HP.out W hb).2, HE.out.2.below hW HE.out.2.lt, Nat.le_trans HD.out.2.2 hb.size⟩
  go_loopw [6, 17] (fun sv iv wr => ∃ (i : Nat) (S : Nat → Prop) (lo : Option Addr) (lc : Nat), i ≤ l2.length ∧ sv = .slice lo ((l2.take i).foldl (thrP l1) []).length lc ∧ iv = .int .i64 (i : Int) ∧ Hid (OuR S w1.heap.size wr ((l2.take i).foldl (thrP l1) []) lo lc ∧ Below w1.heap.size w1 wr)) (fun _ iv _ => l2.length - (intOf iv).toNat)
  case atStart => exact ⟨0, fun _ => False, none, 0, by omega, rfl, rfl, OuR.nil _ _ (Nat.le_refl _), Below.refl _ _⟩
  case round =>
    obtain ⟨i, S, lo, lc, hi, rfl, rfl, HI⟩ := hrel
    by_cases hlt : i < l2.length
    · have x0 : (0 : Int) ≤ (i : Int) := by omega
      have x1 : (i : Int) < (l2.length : Int) := by omega
      have z1 : IntKind.i64.wrap ((i : Int) + 1) = (i : Int) + 1 := i64_in _ (by omega) (by omega)
      obtain ⟨x, hx⟩ : ∃ x, l2[i]? = some x := ⟨_, List.getElem?_eq_getElem hlt⟩
      have hxr := HD.out.2.1 x (List.mem_of_getElem? hx)
      have hxn : x.n ≤ 524288 := Nat.le_trans (sum_le_of (List.mem_of_getElem? hx)) hs2
      have HFT : Hid ((l2.take (i + 1)).foldl (thrP l1) [] = thrP l1 ((l2.take i).foldl (thrP l1) []) x) := foldl_take _ _ hx
      obtain ⟨B, v, e, hc, hv⟩ := (HK.out _ HI.out.2).2.1.at hx
      have HT := HTS.out i hi
      have HTl : Hid (ThS bef ((l2.take i).foldl (thrP l1) [])) := HT
      obtain ⟨out, hout⟩ : ∃ out, out = (l2.take i).foldl (thrP l1) [] := ⟨_, rfl⟩
      rw [← hout] at HI HFT HTl ⊢
      clear HT hout hx
      have HVX : Hid (PaV N2 wr x v) := hv
      obtain ⟨xlay, xf, xn, xb⟩ := x
      simp only at hxn
      rcases hv.eq with ⟨hlay, e2⟩ | ⟨hlay, B2, off2, c2, e2, hb1, hb2, hb3, hb4⟩
      · simp only at hlay e2
        subst hlay; subst e2
        obtain ⟨q1, q2⟩ := hxr.cpy rfl
        simp only at q1 q2
        have TA0 : ∀ W, Sem.run Tryd.prog (Instr.typeAssert (.iface 66 (.agg #[.int .i64 (xf : Int), .int .i64 (xn : Int)])) 54 63 true) W = .ok (.tuple #[.agg #[.slice none 0 0], .bool false]) W := fun W => by kernel_rfl
        have TA1 : ∀ W, Sem.run Tryd.prog (Instr.typeAssert (.iface 66 (.agg #[.int .i64 (xf : Int), .int .i64 (xn : Int)])) 54 66 true) W = .ok (.tuple #[.agg #[.int .i64 (xf : Int), .int .i64 (xn : Int)], .bool true]) W := fun W => by kernel_rfl
        have z2 : IntKind.i64.wrap ((xf : Int) + (xn : Int)) = ((xf + xn : Nat) : Int) := by rw [i64_in _ (by omega) (by omega)]; push_cast; rfl
        obtain ⟨W5, hW5⟩ : ∃ W5, W5 = wr.alloc (.cells #[.int .i64 (xf : Int), .int .i64 (xn : Int)] 66) := ⟨_, rfl⟩
        have hb5 : Below wr.heap.size wr W5 := by rw [hW5]; exact (Below.refl _ _).alloc (Nat.le_refl _) _
        have HB5 : Hid (Below w1.heap.size w1 W5 ∧ OuR S w1.heap.size W5 out lo lc ∧ wr.heap.size ≤ W5.heap.size) := ⟨HI.out.2.trans (hb5.mono HI.out.2.size), HI.out.1.keep hb5, hb5.size⟩
        obtain ⟨pcs, hpcs⟩ : ∃ pcs, pcs = piecesP l1 ⟨false, xf, xn, xb⟩ := ⟨_, rfl⟩
        have FW : Hid (Calls Tryd.prog 31 #[.slice lo1 l1.length lc1, .slice (some ⟨E, 0, none⟩) l1.length l1.length, .int .i64 (xf : Int), .int .i64 ((xf + xn : Nat) : Int)] W5 (WitQ W5.heap.size N0 W5 pcs)) := by
          rw [hpcs]
          have hk := HK.out W5 HB5.out.1
          exact cwithin_any N0 bef W5 l1 lo1 lc1 E xf xn hk.2.2.2 hk.1 hk.2.2.1 HD.out.1 hbef hs1 hn1 q2
        have HTS2 : Hid (∀ j, j ≤ pcs.length → ThS bef ((pcs.take j).foldl joinP out)) := fun j hj => by
          obtain ⟨p1, p2, _⟩ := pieces_right HD.out.1 (x := ⟨false, xf, xn, xb⟩) q2
          obtain ⟨k1, k2, k3, _⟩ := foldl_right (pcs.take j) out HTl.out.y HTl.out.b (fun z hz => p1 z (by rw [← hpcs]; exact List.mem_of_mem_take hz))
          have a1 := sumN_take_le pcs j
          have hp2 : sumN pcs = xn := by rw [hpcs]; exact p2
          have a2 := HTS.out (i + 1) (by omega)
          have a3 := a2.s
          rw [HFT.out] at a3
          have a4 := (thrP_right HD.out.1 (x := ⟨false, xf, xn, xb⟩) HTl.out.y HTl.out.b hxr).2.2.1
          simp only at a4
          rw [a4] at a3
          exact ⟨k1, k2, by rw [k3]; omega⟩
        have HPR : Hid (∀ z ∈ pcs, PtR bef z ∧ z.n ≤ 524288) := fun z hz => by
          obtain ⟨p1, p2, _⟩ := pieces_right HD.out.1 (x := ⟨false, xf, xn, xb⟩) q2
          have hp2 : sumN pcs = xn := by rw [hpcs]; exact p2
          exact ⟨p1 z (by rw [← hpcs]; exact hz), Nat.le_trans (sum_le_of hz) (by have := hp2; unfold sumN at this; omega)⟩
        have HFE : Hid (thrP l1 out ⟨false, xf, xn, xb⟩ = pcs.foldl joinP out) := by show _ = _; rw [hpcs]; rfl
        have hpl : pcs.length ≤ 524288 := by
          obtain ⟨p1, p2, _⟩ := pieces_right HD.out.1 (x := ⟨false, xf, xn, xb⟩) q2
          have hp2 : sumN pcs = xn := by rw [hpcs]; exact p2
          have := len_le_sum (l := pcs) fun y hy => (HPR.out y hy).1.pos
          unfold sumN at hp2
          omega
        clear hb5 hpcs hxr hv q1 q2
        subst e
        go_upto_region 12 with fail
        rw [← hW5]
        have cW0 : W5.cell? ⟨wr.heap.size, 0, none⟩ = some (.int .i64 (xf : Int)) := by rw [hW5]; exact (Row.at wr 66 [.int .i64 (xf : Int), .int .i64 (xn : Int)] _ _ rfl rfl).cell 0 _ rfl
        have cW1 : W5.cell? ⟨wr.heap.size, 1, none⟩ = some (.int .i64 (xn : Int)) := by rw [hW5]; exact (Row.at wr 66 [.int .i64 (xf : Int), .int .i64 (xn : Int)] _ _ rfl rfl).cell 1 _ rfl
        clear hW5 hc
        go_wp2_with fail
        refine FW.out.mono ?_
        rintro e w6 ⟨plo, plc, rfl, hpq, hb6⟩
        have H6 : Hid (PaQ W5.heap.size N0 w6 pcs plo plc ∧ OuR S w1.heap.size w6 out lo lc ∧ Below w1.heap.size w1 w6 ∧ W5.heap.size ≤ w6.heap.size) := ⟨hpq, HB5.out.2.1.keep hb6, HB5.out.1.trans (hb6.mono HB5.out.1.size), hb6.size⟩
        have HPB : Hid (∀ g, plo = some ⟨g, 0, none⟩ → W5.heap.size ≤ g ∧ g < w6.heap.size) := fun g e => by
          obtain ⟨vs, u1, u2, u3⟩ := hpq.vs
          subst e
          exact u2.lt g rfl
        clear hpq hb6 FW cW0 cW1
        dsimp only
        go_wp2
        obtain ⟨wo, hwo⟩ : ∃ wo, wo = wr := ⟨wr, rfl⟩
        subst hwo
        go_loopw [6, 43] (fun sv iv wr => ∃ (j : Nat) (S2 : Nat → Prop) (lo : Option Addr) (lc : Nat), j ≤ pcs.length ∧ sv = .slice lo ((pcs.take j).foldl joinP out).length lc ∧ iv = .int .i64 (j : Int) ∧ Hid (OuR S2 w1.heap.size wr ((pcs.take j).foldl joinP out) lo lc ∧ Below w1.heap.size w1 wr ∧ PaQ W5.heap.size N0 wr pcs plo plc ∧ (∀ k, S2 k → S k ∨ w6.heap.size ≤ k) ∧ w6.heap.size ≤ wr.heap.size)) (fun _ iv _ => pcs.length - (intOf iv).toNat)
        case atStart => exact ⟨0, S, lo, lc, by omega, rfl, rfl, H6.out.2.1, H6.out.2.2.1, H6.out.1, fun k hk => .inl hk, Nat.le_refl _⟩
        case round =>
          obtain ⟨j, S2, lo4, lc4, hj, rfl, rfl, HJ⟩ := hrel
          by_cases hjt : j < pcs.length
          · have x3 : (0 : Int) ≤ (j : Int) := by omega
            have x4 : (j : Int) < (pcs.length : Int) := by omega
            have z3 : IntKind.i64.wrap ((j : Int) + 1) = (j : Int) + 1 := i64_in _ (by omega) (by omega)
            obtain ⟨z, hz⟩ : ∃ z, pcs[j]? = some z := ⟨_, List.getElem?_eq_getElem hjt⟩
            obtain ⟨B3, v3, e3, hc3, hv3⟩ := HJ.out.2.2.1.at hz
            have hzr := HPR.out z (List.mem_of_getElem? hz)
            have HF2 : Hid ((pcs.take (j + 1)).foldl joinP out = joinP ((pcs.take j).foldl joinP out) z) := foldl_take _ _ hz
            have hT2 := HTS2.out j (by omega)
            have FJ : Hid (Calls Tryd.prog 30 #[.slice lo4 ((pcs.take j).foldl joinP out).length lc4, v3] wr (JnP S2 w1.heap.size wr ((pcs.take (j + 1)).foldl joinP out))) := by
              rw [HF2.out]
              exact cjoin_any S2 w1.heap.size N0 bef wr _ lo4 lc4 z v3 HJ.out.1 (by have := hT2.len; omega) hT2.y hT2.s hbef hzr.1 hzr.2 hv3
            clear hz hzr hv3 hT2
            subst e3
            go_wp2_with fail
            refine FJ.out.mono ?_
            rintro e w7 ⟨S3, lo5, lc5, rfl, ho5, hj5, hs5⟩
            have H7 : Hid (OuR S3 w1.heap.size w7 ((pcs.take (j + 1)).foldl joinP out) lo5 lc5 ∧ Below w1.heap.size w1 w7 ∧ PaQ W5.heap.size N0 w7 pcs (some ⟨B3, 0, none⟩) plc ∧ (∀ k, S3 k → S k ∨ w6.heap.size ≤ k) ∧ w6.heap.size ≤ w7.heap.size) := by
              have hS2 : ∀ k, S2 k → w1.heap.size ≤ k := fun k hk => (HJ.out.1.inS k hk).1
              have hNN : N0 ≤ w1.heap.size := Nat.le_trans HD.out.2.2 HE.out.1.size
              refine ⟨ho5, HJ.out.2.1.trans (hj5.below hS2 HJ.out.2.1.size), HJ.out.2.2.1.jfr hj5 (fun k hk => Nat.le_trans hNN (hS2 k hk)) (fun g eg hk => ?_), fun k hk => ?_, Nat.le_trans HJ.out.2.2.2.2 hj5.bel.size⟩
              · have hg := HPB.out g eg
                rcases HJ.out.2.2.2.1 g hk with h | h
                · have := (HI.out.1.inS g h).2
                  have := HB5.out.2.2
                  omega
                · omega
              · rcases hs5 k hk with h | h
                · exact HJ.out.2.2.2.1 k h
                · exact .inr (Nat.le_trans HJ.out.2.2.2.2 h)
            clear ho5 hj5 hs5 FJ
            dsimp only
            go_wp2
            exact ⟨⟨j + 1, S3, lo5, lc5, by omega, rfl, by go_num, H7⟩, by simp [intOf]; omega⟩
          · have x4 : decide ((j : Int) < (pcs.length : Int)) = false := by rw [decide_eq_false_iff_not]; omega
            have x5 : ¬ (j : Int) < (pcs.length : Int) := by omega
            have e4 : pcs.take j = pcs := List.take_of_length_le (by omega)
            have H8 : Hid (OuR S2 w1.heap.size wr ((l2.take (i + 1)).foldl (thrP l1) []) lo4 lc4 ∧ Below w1.heap.size w1 wr ∧ (pcs.take j).foldl joinP out = (l2.take (i + 1)).foldl (thrP l1) []) := by
              have e5 : (pcs.take j).foldl joinP out = (l2.take (i + 1)).foldl (thrP l1) [] := by rw [e4, HFT.out, HFE.out]
              exact ⟨by rw [← e5]; exact HJ.out.1, HJ.out.2.1, e5⟩
            clear e4
            go_wp2
            exact ⟨⟨i + 1, S2, lo4, lc4, by omega, by rw [H8.out.2.2], by go_num, H8.out.1, H8.out.2.1⟩, by simp [intOf]; omega⟩
      · simp only at hlay e2 hb1 hb2 hb3
        subst hlay; subst e2
        have TA0 : ∀ W, Sem.run Tryd.prog (Instr.typeAssert (.iface 63 (.agg #[.slice (some ⟨B2, off2, none⟩) xn c2])) 54 63 true) W = .ok (.tuple #[.agg #[.slice (some ⟨B2, off2, none⟩) xn c2], .bool true]) W := fun W => by kernel_rfl
        obtain ⟨W5, hW5⟩ : ∃ W5, W5 = wr.alloc (.cells #[.slice (some ⟨B2, off2, none⟩) xn c2] 63) := ⟨_, rfl⟩
        have hb5 : Below wr.heap.size wr W5 := by rw [hW5]; exact (Below.refl _ _).alloc (Nat.le_refl _) _
        have c5 : W5.cell? ⟨wr.heap.size, 0, none⟩ = some (.slice (some ⟨B2, off2, none⟩) xn c2) := by rw [hW5]; exact (Row.at wr 63 [.slice (some ⟨B2, off2, none⟩) xn c2] _ _ rfl rfl).cell 0 _ rfl
        have HB5 : Hid (Below w1.heap.size w1 W5 ∧ OuR S w1.heap.size W5 out lo lc) := ⟨HI.out.2.trans (hb5.mono HI.out.2.size), HI.out.1.keep hb5⟩
        have FJ : Hid (Calls Tryd.prog 30 #[.slice lo out.length lc, .iface 63 (.agg #[.slice (some ⟨B2, off2, none⟩) xn c2])] W5 (JnP S w1.heap.size W5 ((l2.take (i + 1)).foldl (thrP l1) []))) := by
          have hxr2 : PtR bef ⟨true, xf, xn, xb⟩ := ⟨hxr.pos, hxr.lay, fun h => by cases h⟩
          have e5 : (l2.take (i + 1)).foldl (thrP l1) [] = joinP out ⟨true, xf, xn, xb⟩ := by rw [HFT.out]; rfl
          rw [e5]
          exact cjoin_any S w1.heap.size N2 bef W5 out lo lc ⟨true, xf, xn, xb⟩ _ HB5.out.2 (by have := HTl.out.len; omega) HTl.out.y HTl.out.s hbef hxr2 hxn (HVX.out.keep (hb5.mono (HK.out _ HI.out.2).2.1.sz))
        clear hb5 hb1 hb2 hb3 hb4 hxr hv
        subst e
        go_upto_region 9 with fail
        rw [← hW5]
        clear hW5 hc
        go_wp2_with fail
        refine FJ.out.mono ?_
        rintro e w7 ⟨S3, lo5, lc5, rfl, ho5, hj5, hs5⟩
        have H7 : Hid (OuR S3 w1.heap.size w7 ((l2.take (i + 1)).foldl (thrP l1) []) lo5 lc5 ∧ Below w1.heap.size w1 w7) := ⟨ho5, HB5.out.1.trans (hj5.below (fun k hk => (HI.out.1.inS k hk).1) HB5.out.1.size)⟩
        clear ho5 hj5 hs5 FJ c5
        dsimp only
        go_wp2
        exact ⟨⟨i + 1, S3, lo5, lc5, by omega, rfl, by go_num, H7⟩, by simp [intOf]; omega⟩
    · have x1 : decide ((i : Int) < (l2.length : Int)) = false := by rw [decide_eq_false_iff_not]; omega
      have x2 : ¬ (i : Int) < (l2.length : Int) := by omega
      have et : l2.take i = l2 := List.take_of_length_le (by omega)
      have HF : Hid (ThrP w (through l1 l2) (.returned (.slice lo ((l2.take i).foldl (thrP l1) []).length lc)) wr) := by
        rw [et]
        refine ⟨S, w1.heap.size, lo, lc, rfl, ?_, HE.out.1.size, HE.out.1.trans (HI.out.2.mono HE.out.1.size)⟩
        have := HI.out.1
        rw [et] at this
        exact this
      clear et
      go_wp2
      go_ret
      exact HF.out
end Go.Proofs.YtdfbfheceobboaaDoor
