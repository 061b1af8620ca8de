
import Derived.Test.YtdfbfheceobboaaDoorP25Ml
/-! The code's patch: Make. -/
namespace Go.Proofs.YtdfbfheceobboaaDoor
open Go.RowKit
set_option linter.unusedVariables false
set_option linter.unusedSimpArgs false
set_option maxRecDepth 100000

theorem build_inf4 (b af : Int) (w : World) : ∀ (d e : List By), d.length = 32 → e.length = 32 → (Instr.build 47 #[(0, .agg (d.map B8).toArray), (1, .agg (e.map B8).toArray), (2, .int .i64 b), (3, .int .i64 af)]).run Tryd.prog w = .ok (.agg (d.map B8 ++ e.map B8 ++ ([.int .i64 b, .int .i64 af, .int .i64 0, .int .i64 0] : List Value)).toArray) w
  | [x0, x1, x2, x3, x4, x5, x6, x7, x8, x9, x10, x11, x12, x13, x14, x15, x16, x17, x18, x19, x20, x21, x22, x23, x24, x25, x26, x27, x28, x29, x30, x31], [y0, y1, y2, y3, y4, y5, y6, y7, y8, y9, y10, y11, y12, y13, y14, y15, y16, y17, y18, y19, y20, y21, y22, y23, y24, y25, y26, y27, y28, y29, y30, y31], _, _ => by kernel_rfl
theorem wpList_build4 {ops : Array Oper} {rest : List Oper} {o : Oper} {a : Act} {w : World} {Q : Exit → Act → World → Prop} (hg : o.guard = none) (t : TypeId) (i j k l : Nat) (x y z u : Operand) (ho : o.op = .build t #[(i, x), (j, y), (k, z), (l, u)])
    (vx vy vz vu v : Value) (hx : a.eval x = vx) (hy : a.eval y = vy) (hz : a.eval z = vz) (hu : a.eval u = vu) (hrun : (Instr.build t #[(i, vx), (j, vy), (k, vz), (l, vu)]).run Tryd.prog w = .ok v w) (h : wpList Tryd.prog ops Q rest (a.put o.dst v) w) : wpList Tryd.prog ops Q (o :: rest) a w := by
  subst hx; subst hy; subst hz; subst hu
  refine wpList_plain hg fun K hK => ?_
  unfold Oper.wp execOp
  simp only [ho, List.map_toArray, List.map_cons, List.map_nil, Sem.run_bind, Sem.run_pure, hrun, Result.andThen_ok]
  exact hK _ _ h
theorem layV_blk {B off n c B' off' n' c' : Nat} (h : layV (some ⟨B, off, none⟩) n c = layV (some ⟨B', off', none⟩) n' c') : B = B' := by
  injection h with _ h
  injection h with h
  injection h with h
  injection h with h _
  injection h with h
  injection h with h
  injection h with h
theorem own_nc {N : Nat} {w : World} {ao : Option Addr} {n c : Nat} {m : List By} (h : Own N w (.slice ao n c) m) : ao = none → c = 0 := by
  intro e
  subst e
  rcases h.1.2 with ⟨e1, _⟩ | ⟨g2, c', cur, e1, _⟩
  · injection e1
  · injection e1 with e1; cases e1
theorem SlB.raise {N M : Nat} {w : World} {ao : Option Addr} {n c : Nat} {m : List By} (h : SlB N w ao n c m) (h1 : N ≤ M) (h2 : M ≤ w.heap.size) : SlB M w ao n c m :=
  ⟨h.len, h.cap, h.nil, h.isb, h2, fun B off e hm => Nat.lt_of_lt_of_le (h.blk B off e hm) h1⟩
/-- All parts' bytes, from nothing. -/
theorem cputnew_any (N : Nat) (w : World) (l : List Pt) (lo : Option Addr) (lc : Nat) (h : PaR N w l lo lc) (hy : ∀ y ∈ l, 1 ≤ y.n ∧ y.n < 4294967296 ∧ y.frm < 4294967296) (hn : (putL l).length ≤ 800000000) (hll : l.length ≤ 800000000) :
    Calls Tryd.prog 10 #[.slice none 0 0, .slice lo l.length lc] w fun e w' => ∃ ao c, e = .returned (.slice ao (putL l).length c) ∧ Own N w' (.slice ao (putL l).length c) (putL l) ∧ Below w.heap.size w w' := by
  refine (cputall_any N N none 0 0 [] w l lo lc (own_nil N w h.sz) (fun W ao' hg i y hi => ?_) hy (by omega) hll).mono ?_
  · obtain ⟨B, v, e, hc, hv⟩ := (h.keep hg.fresh).at hi
    refine ⟨B, v, e, hc, hv, fun B2 off2 n2 c2 e2 e3 => ?_⟩
    subst e2
    rcases hv.eq with ⟨_, e4⟩ | ⟨_, B', off', c', e4, _, _, _, hB⟩
    · cases e4
    · have e5 := layV_blk e4
      subst e5
      rcases hg.loc with e7 | ⟨g', e7, hg'⟩
      · rw [e7] at e3; cases e3
      · rw [e7] at e3; injection e3 with e3; injection e3 with e3
        have := h.sz
        omega
  · rintro e w' ⟨ao, c, rfl, ho, hg⟩
    rw [Nat.zero_add] at ho ⊢
    exact ⟨ao, c, rfl, ho, hg.fresh⟩
def CMkO (w : World) (old new : List By) (e : Ending) (w' : World) : Prop :=
  Below w.heap.size w w' ∧ ∃ b, Own w.heap.size w' b (if old.length ≤ 524288 ∧ new.length ≤ 524288 then makeM old new else []) ∧ e = .returned (.tuple #[b, .int .i64 (if old.length ≤ 524288 ∧ new.length ≤ 524288 then 0 else 4)])
theorem right_small {bef aft : Nat} {l : List Pt} (h : ∀ y ∈ l, PtR bef y) (hs : sumN l = aft) (hb : bef ≤ 524288) (ha : aft ≤ 524288) : (∀ y ∈ l, 1 ≤ y.n ∧ y.n < 4294967296 ∧ y.frm < 4294967296) ∧ (putL l).length ≤ 5242880 ∧ l.length ≤ 524288 := by
  have h1 := putL_le bef l h
  have h2 : l.length ≤ sumN l := len_le_sum fun y hy => (h y hy).pos
  refine ⟨fun y hy => ?_, by omega, by omega⟩
  have hp := (h y hy).pos
  have hn : y.n ≤ sumN l := sum_le_of hy
  refine ⟨hp, by omega, ?_⟩
  cases hl : y.lay with
  | true => have := ((h y hy).lay hl).2; omega
  | false => have := ((h y hy).cpy hl).2; omega
set_option maxHeartbeats 4000000 in
theorem cmake_any (w : World) (ao : Option Addr) (n c : Nat) (old : List By) (po : Option Addr) (pn pc : Nat) (new : List By) (h1 : SlB w.heap.size w ao n c old) (h2 : SlB w.heap.size w po pn pc new) (hn47 : n ≤ 140737488351232) (hpn47 : pn ≤ 140737488351232) :
    Calls Tryd.prog 5 #[.slice ao n c, .slice po pn pc] w (CMkO w old new) := by
  by_cases hn : n ≤ 524288
  · by_cases hpn : pn ≤ 524288
    · have k1 : decide ((524288 : Int) < (n : Int)) = false := by rw [decide_eq_false_iff_not]; omega
      have k2 : decide ((524288 : Int) < (pn : Int)) = false := by rw [decide_eq_false_iff_not]; omega
      have F1 := calone_any w.heap.size w po pn pc new h2
      have F2 : Hid (∀ W, Below w.heap.size w W → Calls Tryd.prog 12 #[.slice ao n c, .slice po pn pc] W (WitP W.heap.size W (keptP old new (lcp old new) (lcsN old new)))) := fun W hW => ckeep_any W.heap.size W ao n c old po pn pc new ((h1.keep hW).raise hW.size (Nat.le_refl _)) ((h2.keep hW).raise hW.size (Nat.le_refl _)) hn hpn
      have FP : Hid (∀ W N' l lo lc, w.heap.size ≤ N' → PaR N' W l lo lc → (∀ y ∈ l, PtR n y) → sumN l = pn → Calls Tryd.prog 10 #[.slice none 0 0, .slice lo l.length lc] W fun e w' => ∃ ao c, e = .returned (.slice ao (putL l).length c) ∧ Own w.heap.size w' (.slice ao (putL l).length c) (putL l) ∧ Below W.heap.size W w') := fun W N' l lo lc q0 q1 q2 q3 => by
        obtain ⟨r1, r2, r3⟩ := right_small q2 q3 hn hpn
        refine (cputnew_any _ W l lo lc q1 r1 (by omega) (by omega)).mono ?_
        rintro e w' ⟨ao1, c1, rfl, p1, p2⟩
        exact ⟨ao1, c1, rfl, own_le p1 q0, p2⟩
      have A1 := alone_right new n
      have A2 := kept_right old new
      rw [h1.len] at A2
      rw [h2.len] at A1 A2
      have SO : Hid (∀ W, Below w.heap.size w W → Calls Tryd.prog 14 #[.slice ao n c] W fun e w' => e = .returned (.agg ((sha old).map B8).toArray) ∧ Below W.heap.size W w') := fun W hW => by
        have := of_any ao c old W (h1.keep hW).isb (by rw [h1.len]; exact h1.cap) (by rw [h1.len]; omega)
        rwa [h1.len] at this
      have SN : Hid (∀ W, Below w.heap.size w W → Calls Tryd.prog 14 #[.slice po pn pc] W fun e w' => e = .returned (.agg ((sha new).map B8).toArray) ∧ Below W.heap.size W w') := fun W hW => by
        have := of_any po pc new W (h2.keep hW).isb (by rw [h2.len]; exact h2.cap) (by rw [h2.len]; omega)
        rwa [h2.len] at this
      have BI : Hid (∀ W, (Instr.build 47 #[(0, .agg ((sha old).map B8).toArray), (1, .agg ((sha new).map B8).toArray), (2, .int .i64 (n : Int)), (3, .int .i64 (pn : Int))]).run Tryd.prog W = .ok (.agg (infC (sha old) (sha new) n pn 0 0).toArray) W) := fun W => build_inf4 n pn W (sha old) (sha new) (sha_len _) (sha_len _)
      have FH : Hid (∀ W, Calls Tryd.prog 13 #[.agg (infC (sha old) (sha new) n pn 0 0).toArray] W fun e w' => ∃ ao' c', e = .returned (.slice ao' 77 c') ∧ Own W.heap.size w' (.slice ao' 77 c') (headB (sha old) (sha new) n pn) ∧ Below W.heap.size W w') := fun W => by
        have := cputhead_any (sha old) (sha new) n pn 0 0 W (sha_len _) (sha_len _) (by omega) (by omega)
        unfold HeadP at this
        rw [headB_len (sha_len _) (sha_len _)] at this
        exact this
      have HE : Hid (∀ W ao' n' c' PB, PB = putL (bestP old new) → n' = 77 + PB.length → Own w.heap.size W (.slice ao' n' c') (headB (sha old) (sha new) n pn ++ PB) → Below w.heap.size w W → CMkO w old new (.returned (.tuple #[.slice ao' n' c', .int .i64 0])) W) := fun W ao' n' c' PB e1 e2 ho hb => by
        subst e1; subst e2
        unfold CMkO
        rw [if_pos ⟨by rw [h1.len]; exact hn, by rw [h2.len]; exact hpn⟩, if_pos ⟨by rw [h1.len]; exact hn, by rw [h2.len]; exact hpn⟩]
        refine ⟨hb, _, ?_, rfl⟩
        unfold makeM
        rw [h1.len, h2.len]
        exact ho
      have BP : Hid (putL (bestP old new) = if (putL (keptP old new (lcp old new) (lcsN old new))).length < (putL (aloneP new)).length then putL (keptP old new (lcp old new) (lcsN old new)) else putL (aloneP new)) := by
        show _ = _
        unfold bestP
        split <;> rfl
      have HB77 : Hid ((headB (sha old) (sha new) n pn).length = 77) := headB_len (sha_len _) (sha_len _) _ _
      generalize infC (sha old) (sha new) n pn 0 0 = IC at *
      generalize headB (sha old) (sha new) n pn = HD at *
      generalize (sha old).map B8 = S1 at *
      generalize (sha new).map B8 = S2 at *
      have A1h : Hid ((∀ y ∈ aloneP new, PtR n y) ∧ sumN (aloneP new) = pn) := ⟨A1.1, A1.2.2.1⟩
      have A2h : Hid ((∀ y ∈ keptP old new (lcp old new) (lcsN old new), PtR n y) ∧ sumN (keptP old new (lcp old new) (lcsN old new)) = pn) := ⟨A2.1, A2.2.2.1⟩
      clear A1 A2
      generalize putL (bestP old new) = PBB at *
      generalize aloneP new = LA at *
      generalize keptP old new (lcp old new) (lcsN old new) = LK at *
      clear h1 h2
      go_enter Tryd.func5, Tryd.ntmps5
      go_wp2_with fail
      refine F1.mono ?_
      rintro e w1 ⟨lo1, lc1, rfl, hp1, hb1⟩
      dsimp only
      have HP1 : Hid (PaR w.heap.size w1 LA lo1 lc1 ∧ Below w.heap.size w w1) := ⟨hp1, hb1⟩
      clear hp1 hb1 F1
      go_wp2_with fail
      refine (FP.out _ _ LA _ _ (Nat.le_refl _) HP1.out.1 A1h.out.1 A1h.out.2).mono ?_
      rintro e w2 ⟨ao2, c2, rfl, ho2, hb2⟩
      dsimp only
      have HP2 : Hid (Own w.heap.size w2 (.slice ao2 (putL LA).length c2) (putL LA) ∧ Below w.heap.size w w2) := ⟨ho2, HP1.out.2.trans (hb2.mono HP1.out.2.size)⟩
      clear ho2 hb2 HP1
      go_wp2_with fail
      refine (F2.out _ HP2.out.2).mono ?_
      rintro e w3 ⟨lo3, lc3, rfl, hp3, hb3⟩
      dsimp only
      have HP3 : Hid (PaR w2.heap.size w3 LK lo3 lc3 ∧ w.heap.size ≤ w2.heap.size ∧ Own w.heap.size w3 (.slice ao2 (putL LA).length c2) (putL LA) ∧ Below w.heap.size w w3) := ⟨hp3, HP2.out.2.size, HP2.out.1.keep hb3, HP2.out.2.trans (hb3.mono HP2.out.2.size)⟩
      clear hp3 hb3 HP2 F2
      go_wp2_with fail
      refine (FP.out _ _ LK _ _ HP3.out.2.1 HP3.out.1 A2h.out.1 A2h.out.2).mono ?_
      rintro e w4 ⟨ao4, c4, rfl, ho4, hb4⟩
      dsimp only
      have HP4 : Hid (Own w.heap.size w4 (.slice ao2 (putL LA).length c2) (putL LA) ∧ Own w.heap.size w4 (.slice ao4 (putL LK).length c4) (putL LK) ∧ Below w.heap.size w w4) := ⟨HP3.out.2.2.1.keep hb4, ho4, HP3.out.2.2.2.trans (hb4.mono HP3.out.2.2.2.size)⟩
      have HLL : Hid ((putL LA).length ≤ 5242880 ∧ (putL LK).length ≤ 5242880) := ⟨(right_small A1h.out.1 A1h.out.2 hn hpn).2.1, (right_small A2h.out.1 A2h.out.2 hn hpn).2.1⟩
      clear ho4 hb4 HP3 A1h A2h FP
      by_cases hlt : (putL LK).length < (putL LA).length
      · have x1 : ((putL LK).length : Int) < ((putL LA).length : Int) := by omega
        have HPB : Hid (putL LK = PBB) := by show _ = _; rw [BP.out, if_pos hlt]
        have HLP : Hid ((putL LK).length ≤ 5242880) := HLL.out.2
        clear hlt BP
        go_wp2_with fail
        refine (SO.out _ HP4.out.2.2).mono ?_
        rintro e w5 ⟨rfl, hb5⟩
        dsimp only
        have HP5 : Hid (Own w.heap.size w5 (.slice ao4 (putL LK).length c4) (putL LK) ∧ Below w.heap.size w w5) := ⟨HP4.out.2.1.keep hb5, HP4.out.2.2.trans (hb5.mono HP4.out.2.2.size)⟩
        clear hb5 HP4 SO
        go_wp2_with fail
        refine (SN.out _ HP5.out.2).mono ?_
        rintro e w6 ⟨rfl, hb6⟩
        dsimp only
        have HP6 : Hid (Own w.heap.size w6 (.slice ao4 (putL LK).length c4) (putL LK) ∧ Below w.heap.size w w6) := ⟨HP5.out.1.keep hb6, HP5.out.2.trans (hb6.mono HP5.out.2.size)⟩
        clear hb6 HP5 SN
        go_wp2_with (refine wpList_build4 rfl 47 0 1 2 3 (.tmp 31) (.tmp 33) (.tmp 35) (.tmp 37) rfl (.agg S1.toArray) (.agg S2.toArray) (.int .i64 (n : Int)) (.int .i64 (pn : Int)) (.agg IC.toArray) rfl rfl rfl rfl (BI.out _) ?_)
        refine (FH.out _).mono ?_
        rintro e w7 ⟨ao7, c7, rfl, ho7, hb7⟩
        dsimp only
        have HP7 : Hid (Own w.heap.size w7 (.slice ao4 (putL LK).length c4) (putL LK) ∧ Below w.heap.size w w7 ∧ Own w.heap.size w7 (.slice ao7 77 c7) HD) := ⟨HP6.out.1.keep hb7, HP6.out.2.trans (hb7.mono HP6.out.2.size), own_le ho7 HP6.out.2.size⟩
        clear ho7 hb7 HP6 FH BI
        go_wp2_with (at_builtin; refine wpList_append_more rfl (.tmp 40) (.tmp 41) rfl w.heap.size w ao7 77 c7 HD rfl HB77.out HP7.out.2.2 HP7.out.2.1 ao4 (putL LK).length c4 (putL LK) rfl rfl (own_IsB HP7.out.1) (own_nc HP7.out.1) (by have := HLP.out; omega) ?_; intro ao8 c8 w8 ho8 hb8; have H8 : Hid (CMkO w old new (.returned (.tuple #[.slice ao8 (77 + (putL LK).length) c8, .int .i64 0])) w8) := HE.out w8 ao8 _ c8 (putL LK) HPB.out rfl ho8 hb8; clear ho8 hb8)
        go_ret2
        exact H8.out
      · have x1 : decide (((putL LK).length : Int) < ((putL LA).length : Int)) = false := by rw [decide_eq_false_iff_not]; omega
        have x2 : ¬ ((putL LK).length : Int) < ((putL LA).length : Int) := by omega
        have HPB : Hid (putL LA = PBB) := by show _ = _; rw [BP.out, if_neg hlt]
        have HLP : Hid ((putL LA).length ≤ 5242880) := HLL.out.1
        clear hlt BP
        go_wp2_with fail
        refine (SO.out _ HP4.out.2.2).mono ?_
        rintro e w5 ⟨rfl, hb5⟩
        dsimp only
        have HP5 : Hid (Own w.heap.size w5 (.slice ao2 (putL LA).length c2) (putL LA) ∧ Below w.heap.size w w5) := ⟨HP4.out.1.keep hb5, HP4.out.2.2.trans (hb5.mono HP4.out.2.2.size)⟩
        clear hb5 HP4 SO
        go_wp2_with fail
        refine (SN.out _ HP5.out.2).mono ?_
        rintro e w6 ⟨rfl, hb6⟩
        dsimp only
        have HP6 : Hid (Own w.heap.size w6 (.slice ao2 (putL LA).length c2) (putL LA) ∧ Below w.heap.size w w6) := ⟨HP5.out.1.keep hb6, HP5.out.2.trans (hb6.mono HP5.out.2.size)⟩
        clear hb6 HP5 SN
        go_wp2_with (refine wpList_build4 rfl 47 0 1 2 3 (.tmp 31) (.tmp 33) (.tmp 35) (.tmp 37) rfl (.agg S1.toArray) (.agg S2.toArray) (.int .i64 (n : Int)) (.int .i64 (pn : Int)) (.agg IC.toArray) rfl rfl rfl rfl (BI.out _) ?_)
        refine (FH.out _).mono ?_
        rintro e w7 ⟨ao7, c7, rfl, ho7, hb7⟩
        dsimp only
        have HP7 : Hid (Own w.heap.size w7 (.slice ao2 (putL LA).length c2) (putL LA) ∧ Below w.heap.size w w7 ∧ Own w.heap.size w7 (.slice ao7 77 c7) HD) := ⟨HP6.out.1.keep hb7, HP6.out.2.trans (hb7.mono HP6.out.2.size), own_le ho7 HP6.out.2.size⟩
        clear ho7 hb7 HP6 FH BI
        go_wp2_with (at_builtin; refine wpList_append_more rfl (.tmp 40) (.tmp 41) rfl w.heap.size w ao7 77 c7 HD rfl HB77.out HP7.out.2.2 HP7.out.2.1 ao2 (putL LA).length c2 (putL LA) rfl rfl (own_IsB HP7.out.1) (own_nc HP7.out.1) (by have := HLP.out; omega) ?_; intro ao8 c8 w8 ho8 hb8; have H8 : Hid (CMkO w old new (.returned (.tuple #[.slice ao8 (77 + (putL LA).length) c8, .int .i64 0])) w8) := HE.out w8 ao8 _ c8 (putL LA) HPB.out rfl ho8 hb8; clear ho8 hb8)
        go_ret2
        exact H8.out
    · have k1 : decide ((524288 : Int) < (n : Int)) = false := by rw [decide_eq_false_iff_not]; omega
      have k2 : (524288 : Int) < (pn : Int) := by omega
      have HE : Hid (CMkO w old new (.returned (.tuple #[.slice none 0 0, .int .i64 4])) w) := by
        show CMkO _ _ _ _ _
        unfold CMkO
        rw [if_neg (fun h => hpn (by rw [← h2.len]; exact h.2)), if_neg (fun h => hpn (by rw [← h2.len]; exact h.2))]
        exact ⟨Below.refl _ _, _, own_nil _ _ (Nat.le_refl _), rfl⟩
      clear h1 h2
      go_enter Tryd.func5, Tryd.ntmps5
      go_wp2
      go_ret2
      exact HE.out
  · have k1 : (524288 : Int) < (n : Int) := by omega
    have HE : Hid (CMkO w old new (.returned (.tuple #[.slice none 0 0, .int .i64 4])) w) := by
      show CMkO _ _ _ _ _
      unfold CMkO
      rw [if_neg (fun h => hn (by rw [← h1.len]; exact h.1)), if_neg (fun h => hn (by rw [← h1.len]; exact h.1))]
      exact ⟨Below.refl _ _, _, own_nil _ _ (Nat.le_refl _), rfl⟩
    clear h1 h2
    go_enter Tryd.func5, Tryd.ntmps5
    go_wp2
    go_ret2
    exact HE.out
end Go.Proofs.YtdfbfheceobboaaDoor
