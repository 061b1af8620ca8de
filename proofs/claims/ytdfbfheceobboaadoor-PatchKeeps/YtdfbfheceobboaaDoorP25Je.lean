
import Derived.Test.YtdfbfheceobboaaDoorP25Jd
/-! The code's patch: a part joined to others. -/
namespace Go.Proofs.YtdfbfheceobboaaDoor
open Go.RowKit
set_option linter.unusedVariables false
set_option linter.unusedSimpArgs false
set_option maxRecDepth 100000

def JnP (S : Nat → Prop) (N : Nat) (w : World) (l : List Pt) (e : Ending) (w' : World) : Prop := ∃ S' lo lc, e = .returned (.slice lo l.length lc) ∧ OuR S' N w' l lo lc ∧ JFr S w w' ∧ ∀ k, S' k → S k ∨ w.heap.size ≤ k
theorem jn_app {S : Nat → Prop} {N : Nat} {w W W2 : World} {l : List Pt} {lo lo' : Option Addr} {lc lc' : Nat} {x : Pt} {v : Value} {vs : List Value} (h : OuR S N w l lo lc) (hb : Below w.heap.size w W) (v1 : vs.length = l.length) (v2 : W.ownsRow N 54 1 (.slice lo l.length lc) l.length vs) (v3 : ∀ (i : Nat) (y : Pt) (v : Value), l[i]? = some y → vs[i]? = some v → OuV N W y v) (v4 : ∀ (i : Nat) (v : Value) (B : Nat), vs[i]? = some v → LayAt v B → S B) (v5 : ∀ (i j : Nat) (v u : Value) (B : Nat), vs[i]? = some v → vs[j]? = some u → LayAt v B → LayAt u B → i = j) (hv : OuV N W x v) (hvB : ∀ B, LayAt v B → w.heap.size ≤ B) (ho : W2.ownsRow N 54 1 (.slice lo' (l.length + 1) lc') (l.length + 1) (vs ++ [v])) (hg : Grw N lo lo' W W2) : JnP S N w (l ++ [x]) (.returned (.slice lo' (l.length + 1) lc')) W2 := by
  refine ⟨Ext S w.heap.size W2.heap.size, lo', lc', by rw [List.length_append]; rfl, ou_app h.inS h.sz hb.size v1 v2 v3 v4 v5 h.row hv hvB ho hg, (JFr.of_below hb).trans (.of_grw hg h.row), fun k hk => ?_⟩
  rcases hk with hk | ⟨hk, _⟩
  · exact .inl hk
  · exact .inr hk
theorem jn_set {S : Nat → Prop} {N : Nat} {w W : World} {m : List Pt} {a x : Pt} {g lc : Nat} {v : Value} (h : OuR S N w (m ++ [a]) (some ⟨g, 0, none⟩) lc) (hj : JFr S w W) (hz : w.heap.size ≤ W.heap.size)
    (hq : ∀ vs : List Value, vs.length = m.length + 1 → w.ownsRow N 54 1 (.slice (some ⟨g, 0, none⟩) (m.length + 1) lc) (m.length + 1) vs → (∀ (i : Nat) (y : Pt) (v : Value), (m ++ [a])[i]? = some y → vs[i]? = some v → OuV N w y v) → (∀ (i : Nat) (v : Value) (B : Nat), vs[i]? = some v → LayAt v B → S B) → (∀ (i j : Nat) (v u : Value) (B : Nat), vs[i]? = some v → vs[j]? = some u → LayAt v B → LayAt u B → i = j) →
      W.ownsRow N 54 1 (.slice (some ⟨g, 0, none⟩) (m.length + 1) lc) (m.length + 1) vs ∧ (∀ (i : Nat) (y : Pt) (v : Value), i < m.length → m[i]? = some y → vs[i]? = some v → OuV N W y v) ∧ ∀ B, LayAt v B → (w.heap.size ≤ B ∨ S B) ∧ ∀ i u, i < m.length → vs[i]? = some u → ¬ LayAt u B)
    (hv : OuV N W x v) : JnP S N w (m ++ [x]) (.returned (.slice (some ⟨g, 0, none⟩) (m.length + 1) lc)) (W.setCell ⟨g, m.length, none⟩ v) := by
  obtain ⟨vs, v1, v2, v3, v4, v5⟩ := h.vs
  rw [List.length_append] at v1 v2
  obtain ⟨q1, q2, q3⟩ := hq vs v1 v2 v3 v4 v5
  refine ⟨Ext S w.heap.size (W.setCell ⟨g, m.length, none⟩ v).heap.size, some ⟨g, 0, none⟩, lc, by rw [List.length_append]; rfl, ou_set h.inS h.sz hz v1 q1 (fun i y u hy hu => q2 i y u (List.getElem?_eq_some_iff.1 hy).1 hy hu) (fun i u B _ hu hB => v4 i u B hu hB) v5 (h.row g rfl) hv q3, hj.trans (.set g _ _ (h.row g rfl)), fun k hk => ?_⟩
  rcases hk with hk | ⟨hk, _⟩
  · exact .inl hk
  · exact .inr hk
set_option maxHeartbeats 600000 in
theorem cjoinS_nil (S : Nat → Prop) (N : Nat) (w : World) (l : List Pt) (hl : l = []) (lo : Option Addr) (lc : Nat) (f2 n2 : Nat) (h : OuR S N w l lo lc) (hn1 : 1 ≤ n2) (hn2 : n2 ≤ 524288) (hx : f2 + n2 ≤ 524288) : Calls Tryd.prog 30 #[.slice lo l.length lc, spV f2 n2] w (JnP S N w (joinP l ⟨false, f2, n2, []⟩)) := by
  have HO : Hid (OuR S N w l lo lc) := h
  have HJ : Hid (joinP l ⟨false, f2, n2, []⟩ = l ++ [⟨false, f2, n2, []⟩]) := by show _ = _; rw [hl]; rfl
  have HN2 : Hid (1 ≤ n2 ∧ n2 ≤ 524288) := ⟨hn1, hn2⟩
  have HLL : Hid (l.length ≤ 1000000) := by rw [hl]; exact Nat.zero_le _
  have z1 : IntKind.i64.wrap ((l.length : Int) - 1) = -1 := by rw [hl]; decide
  clear h hl hn1 hn2
  go_enter Tryd.func30, Tryd.ntmps30
  have TX : ∀ W, Sem.run Tryd.prog (Instr.typeAssert (.iface 66 (.agg #[.int .i64 (f2 : Int), .int .i64 (n2 : Int)])) 54 63 true) W = .ok (.tuple #[.agg #[.slice none 0 0], .bool false]) W := fun W => by kernel_rfl
  obtain ⟨W5, hW5⟩ : ∃ W5, W5 = w.alloc (.cells #[.slice none 0 0] 63) := ⟨_, rfl⟩
  have HB5 : Hid (Below w.heap.size w W5) := by show Below _ _ _; rw [hW5]; exact (Below.refl w.heap.size w).alloc (Below.refl w.heap.size w).size _
  obtain ⟨vs, v1, v2, v3, v4, v5⟩ := (HO.out.keep HB5.out).vs
  have V2 : Hid (W5.ownsRow N 54 1 (.slice lo l.length lc) l.length vs) := v2
  have HF : Hid (∀ lo' lc' W2, W2.ownsRow N 54 1 (.slice lo' (l.length + 1) lc') (l.length + 1) (vs ++ [spV f2 n2]) → Grw N lo lo' W5 W2 → JnP S N w (l ++ [⟨false, f2, n2, []⟩]) (.returned (.slice lo' (l.length + 1) lc')) W2) := fun lo' lc' W2 h1 h2 => jn_app HO.out HB5.out v1 v2 v3 v4 v5 ⟨.inl ⟨rfl, rfl⟩⟩ (fun B hB => by obtain ⟨q1, q2, q3⟩ := hB; cases q3) h1 h2
  clear v1 v2 v3 v4 v5
  go_upto_region 8 with fail
  rw [← hW5]
  clear hW5
  go_wp2_with (first
    | (have hz := V2; clear hz; at_builtin; refine wpList_append_part rfl (.tmp 42) (.tmp 44) rfl N (Nat.le_trans HO.out.sz HB5.out.size) lo l.length lc vs rfl V2.out W5.heap.size rfl rfl (spV f2 n2) rfl (by have := HLL.out; omega) ?_; intro lo3 lc3 w3 ho3 hg3; have H3 := HF.out lo3 lc3 w3 ho3 hg3; have H3 : Hid (JnP S N w (l ++ [⟨false, f2, n2, []⟩]) (.returned (.slice lo3 (l.length + 1) lc3)) w3) := H3; clear ho3 hg3 V2))
  go_ret
  rw [HJ.out]
  exact H3.out
set_option maxHeartbeats 600000 in
theorem cjoinL_nil (S : Nat → Prop) (N : Nat) (w : World) (l : List Pt) (hl : l = []) (lo : Option Addr) (lc : Nat) (B2 off2 n2 c2 : Nat) (b2 : List By) (h : OuR S N w l lo lc) (hn1 : 1 ≤ n2) (hn2 : n2 ≤ 524288) (hb2 : b2.length = n2) (hi2 : IsB w (some ⟨B2, off2, none⟩) b2) : Calls Tryd.prog 30 #[.slice lo l.length lc, layV (some ⟨B2, off2, none⟩) n2 c2] w (JnP S N w (joinP l ⟨true, 0, n2, b2⟩)) := by
  have HO : Hid (OuR S N w l lo lc) := h
  have HJ : Hid (joinP l ⟨true, 0, n2, b2⟩ = l ++ [⟨true, 0, n2, b2⟩]) := by show _ = _; rw [hl]; rfl
  have HN2 : Hid (1 ≤ n2 ∧ n2 ≤ 524288) := ⟨hn1, hn2⟩
  have HLL : Hid (l.length ≤ 1000000) := by rw [hl]; exact Nat.zero_le _
  have z1 : IntKind.i64.wrap ((l.length : Int) - 1) = -1 := by rw [hl]; decide
  have HBB : Hid (b2.length = n2 ∧ IsB w (some ⟨B2, off2, none⟩) b2) := ⟨hb2, hi2⟩
  clear hb2 hi2
  clear h hl hn1 hn2
  go_enter Tryd.func30, Tryd.ntmps30
  have TX : ∀ W, Sem.run Tryd.prog (Instr.typeAssert (.iface 63 (.agg #[.slice (some ⟨B2, off2, none⟩) n2 c2])) 54 63 true) W = .ok (.tuple #[.agg #[.slice (some ⟨B2, off2, none⟩) n2 c2], .bool true]) W := fun W => by kernel_rfl
  obtain ⟨W5, hW5⟩ : ∃ W5, W5 = w.alloc (.cells #[.slice (some ⟨B2, off2, none⟩) n2 c2] 63) := ⟨_, rfl⟩
  have HB5 : Hid (Below w.heap.size w W5) := by show Below _ _ _; rw [hW5]; exact (Below.refl w.heap.size w).alloc (Below.refl w.heap.size w).size _
  have c5 : W5.cell? ⟨w.heap.size, 0, none⟩ = some (.slice (some ⟨B2, off2, none⟩) n2 c2) := by rw [hW5]; exact (Row.at w 63 [.slice (some ⟨B2, off2, none⟩) n2 c2] _ _ rfl rfl).cell 0 _ rfl
  have FC : Hid (Calls Tryd.prog 43 #[.slice (some ⟨B2, off2, none⟩) n2 c2] W5 (ClnP W5 n2 b2)) := cclone_any W5 B2 off2 n2 c2 b2 HBB.out.1 (by have := HN2.out; omega) (by have := HN2.out; omega) (HBB.out.2.below HB5.out (Nat.le_refl _))
  go_wp2_with (first
    | (have hz := hW5; clear hz; refine wpList_at25 hW5 ?_; clear hW5)
    | (have hz := FC; clear hz; go_at_call 43; refine FC.out.mono ?_; rintro e w6 ⟨C, c6, rfl, ho6, hb6⟩; have HB6 : Hid (Below w.heap.size w w6 ∧ Own W5.heap.size w6 (.slice (some ⟨C, 0, none⟩) n2 c6) b2) := ⟨HB5.out.trans (hb6.mono HB5.out.size), ho6⟩; clear ho6 hb6 FC c5; obtain ⟨vs, v1, v2, v3, v4, v5⟩ := (HO.out.keep HB6.out.1).vs; have V2 : Hid (w6.ownsRow N 54 1 (.slice lo l.length lc) l.length vs) := v2; have HF : Hid (∀ lo' lc' W2, W2.ownsRow N 54 1 (.slice lo' (l.length + 1) lc') (l.length + 1) (vs ++ [layV (some ⟨C, 0, none⟩) n2 c6]) → Grw N lo lo' w6 W2 → JnP S N w (l ++ [⟨true, 0, n2, b2⟩]) (.returned (.slice lo' (l.length + 1) lc')) W2) := (fun lo' lc' W2 h1 h2 => jn_app HO.out HB6.out.1 v1 v2 v3 v4 v5 ⟨.inr ⟨rfl, C, c6, rfl, own_le HB6.out.2 (Nat.le_trans HO.out.sz HB5.out.size)⟩⟩ (fun B hB => by obtain ⟨q1, q2, q3⟩ := hB; have := layV_blk0 q3; subst this; exact Nat.le_trans HB5.out.size HB6.out.2.lt.1) h1 h2); clear v1 v2 v3 v4 v5)
    | (have hz := V2; clear hz; at_builtin; refine wpList_append_part rfl (.tmp 42) (.tmp 44) rfl N (Nat.le_trans HO.out.sz HB6.out.1.size) lo l.length lc vs rfl V2.out w6.heap.size rfl rfl (layV (some ⟨C, 0, none⟩) n2 c6) rfl (by have := HLL.out; omega) ?_; intro lo3 lc3 w3 ho3 hg3; have H3 := HF.out lo3 lc3 w3 ho3 hg3; have H3 : Hid (JnP S N w (l ++ [⟨true, 0, n2, b2⟩]) (.returned (.slice lo3 (l.length + 1) lc3)) w3) := H3; clear ho3 hg3 V2))
  go_ret
  rw [HJ.out]
  exact H3.out
set_option maxHeartbeats 600000 in
theorem cjoinS_S (S : Nat → Prop) (N : Nat) (w : World) (m : List Pt) (alay : Bool) (fa na : Nat) (ab : List By) (lo : Option Addr) (lc : Nat) (f2 n2 : Nat) (h : OuR S N w (m ++ [⟨alay, fa, na, ab⟩]) lo lc) (hl : m.length + 1 ≤ 1000000) (hala : alay = false) (hna : 1 ≤ na ∧ na ≤ 524288) (hfa : fa ≤ 524288) (hn1 : 1 ≤ n2) (hn2 : n2 ≤ 524288) (hx : f2 + n2 ≤ 524288) : Calls Tryd.prog 30 #[.slice lo (m.length + 1) lc, spV f2 n2] w (JnP S N w (joinP (m ++ [⟨alay, fa, na, ab⟩]) ⟨false, f2, n2, []⟩)) := by
  obtain ⟨l, hle⟩ : ∃ l : List Pt, l = m ++ [⟨alay, fa, na, ab⟩] := ⟨_, rfl⟩
  rw [← hle] at h
  have HO : Hid (OuR S N w l lo lc) := h
  have HN2 : Hid (1 ≤ n2 ∧ n2 ≤ 524288) := ⟨hn1, hn2⟩
  have hln : l.length = m.length + 1 := by rw [hle]; simp
  have HLL : Hid (l.length ≤ 1000000) := by show _ ≤ _; omega
  have hat : l[m.length]? = some ⟨alay, fa, na, ab⟩ := by rw [hle, List.getElem?_append_right (Nat.le_refl _)]; simp
  have hgl : l.getLast? = some ⟨alay, fa, na, ab⟩ := by rw [hle]; exact List.getLast?_concat
  obtain ⟨vs0, u1, u2, u3, u4, u5⟩ := h.vs
  obtain ⟨va, hva⟩ : ∃ va, vs0[m.length]? = some va := ⟨_, List.getElem?_eq_getElem (by omega)⟩
  have hOa := u3 _ _ _ hat hva
  obtain ⟨g0, hg0, hc0⟩ : ∃ g, lo = some ⟨g, 0, none⟩ ∧ w.cell? ⟨g, m.length, none⟩ = some va := by
    rcases u2.2 with ⟨e1, e2⟩ | ⟨g, c', cur, e1, _⟩
    · omega
    · injection e1 with e1
      subst e1
      have := u2.cells (g := g) rfl m.length va hva
      rw [Addr.add_mid, Nat.zero_add] at this
      exact ⟨g, rfl, this⟩
  obtain rfl : va = spV fa na := by
    rcases hOa.eq with ⟨_, e⟩ | ⟨e, _⟩
    · exact e
    · rw [hala] at e; cases e
  have z1 : IntKind.i64.wrap ((l.length : Int) - 1) = (m.length : Int) := by rw [hln, i64_in _ (by omega) (by omega)]; omega
  have y0 : (0 : Int) ≤ (m.length : Int) := by omega
  have y0b : decide ((0 : Int) ≤ (m.length : Int)) = true := by rw [decide_eq_true_iff]; omega
  have y1 : (m.length : Int) < (l.length : Int) := by omega
  have GOS : Hid (∀ W, Calls Tryd.prog 41 #[spV fa na, spV f2 n2] W fun e w' => e = .returned (.bool (decide (f2 = fa + na))) ∧ Below W.heap.size W w') := fun W => goes_ss fa na f2 n2 W (by omega) (by omega)
  have FRZ : Hid (∀ W, Below w.heap.size w W → W.frozen? ⟨g0, m.length, none⟩ = false) := fun W hW => by
    rcases u2.2 with ⟨e1, e2⟩ | ⟨g, c', cur, e1, _, hh, _⟩
    · omega
    · injection e1 with e1
      rw [hg0] at e1
      injection e1 with e1; injection e1 with e1
      subst e1
      have hr : Row w g0 54 cur.toList := by show w.heap[g0]? = _; rw [hh]
      exact (hr.below hW hr.lt).frozen _
  by_cases had : f2 = fa + na
  · have GOF : Hid (∀ W, Calls Tryd.prog 41 #[spV fa na, spV f2 n2] W fun e w' => e = .returned (.bool true) ∧ Below W.heap.size W w') := fun W => by have := GOS.out W; rw [decide_eq_true had] at this; exact this
    have HJ : Hid (joinP (m ++ [⟨alay, fa, na, ab⟩]) ⟨false, f2, n2, []⟩ = m ++ [⟨false, fa, na + n2, []⟩]) := by
      show _ = _
      rw [← hle]
      unfold joinP
      rw [hgl]
      simp only
      rw [if_pos (by unfold goB; rw [hala]; simp [had]), hle, List.dropLast_concat]
      unfold asOneP
      rw [hala]
      rfl
    have FA : Hid (∀ W, Calls Tryd.prog 42 #[spV fa na, spV f2 n2] W fun e w' => e = .returned (spV fa (na + n2)) ∧ Below W.heap.size W w') := fun W => asone_ss fa na f2 n2 W (by omega)
    have HS2 : Hid (∀ W, Below w.heap.size w W → JnP S N w (m ++ [⟨false, fa, na + n2, []⟩]) (.returned (.slice (some ⟨g0, 0, none⟩) l.length lc)) (W.setCell ⟨g0, m.length, none⟩ (spV fa (na + n2)))) := fun W hW => by
      rw [hln]
      rw [hle] at h
      subst hg0
      refine jn_set h (x := ⟨false, fa, na + n2, []⟩) (v := spV fa (na + n2)) (.of_below hW) hW.size (fun vs q1 q2 q3 q4 q5 => ⟨own_keepL q2 fun B e => hW.block B (by injection e with e; injection e with e; subst e; exact (q2.lt _ rfl).2), fun i y u hi hy hu => (q3 i y u (by rw [List.getElem?_append_left hi]; exact hy) hu).keep hW, fun B hB => by obtain ⟨_, _, q⟩ := hB; cases q⟩) ⟨.inl ⟨rfl, rfl⟩⟩
    rw [← hln]
    clear h hl hle hln hat hgl u1 u2 u3 u4 u5 hva hOa hna hn1 hn2 had
    subst hg0
    go_enter Tryd.func30, Tryd.ntmps30
    go_wp2_with fail
    refine (GOF.out _).mono ?_
    rintro e wg ⟨rfl, hbg⟩
    have HBG : Hid (Below w.heap.size w wg) := hbg
    have c1 : wg.cell? ⟨g0, m.length, none⟩ = some (spV fa na) := (hbg.cell (cell_lt25 hc0)).trans hc0
    clear hbg hc0
    dsimp only
    go_wp2_with fail
    refine (FA.out _).mono ?_
    rintro e wa ⟨rfl, hba⟩
    have HBA : Hid (Below w.heap.size w wa) := HBG.out.trans (hba.mono HBG.out.size)
    have c2 : wa.cell? ⟨g0, m.length, none⟩ = some (spV fa na) := (hba.cell (cell_lt25 c1)).trans c1
    have f2' := FRZ.out wa HBA.out
    clear hba c1
    dsimp only
    have H3 := HS2.out _ HBA.out
    have H3 : Hid (JnP S N w (m ++ [⟨false, fa, na + n2, []⟩]) (.returned (.slice (some ⟨g0, 0, none⟩) l.length lc)) (wa.setCell ⟨g0, m.length, none⟩ (spV fa (na + n2)))) := H3
    go_wp2
    go_ret
    rw [HJ.out]
    exact H3.out
  · have GOF : Hid (∀ W, Calls Tryd.prog 41 #[spV fa na, spV f2 n2] W fun e w' => e = .returned (.bool false) ∧ Below W.heap.size W w') := fun W => by have := GOS.out W; rw [decide_eq_false had] at this; exact this
    have HJ : Hid (joinP (m ++ [⟨alay, fa, na, ab⟩]) ⟨false, f2, n2, []⟩ = l ++ [⟨false, f2, n2, []⟩]) := by
      show _ = _
      rw [← hle]
      unfold joinP
      rw [hgl]
      simp only
      rw [if_neg (by unfold goB; rw [hala]; simp; omega)]
    rw [← hln]
    clear h hl hle hln hat hgl u1 u2 u3 u4 u5 hva hOa hna hn1 hn2
    subst hg0
    go_enter Tryd.func30, Tryd.ntmps30
    go_wp2_with fail
    refine (GOF.out _).mono ?_
    rintro e wg ⟨rfl, hbg⟩
    have HBG : Hid (Below w.heap.size w wg) := hbg
    clear hbg hc0
    dsimp only
    have TX : ∀ W, Sem.run Tryd.prog (Instr.typeAssert (.iface 66 (.agg #[.int .i64 (f2 : Int), .int .i64 (n2 : Int)])) 54 63 true) W = .ok (.tuple #[.agg #[.slice none 0 0], .bool false]) W := fun W => by kernel_rfl
    obtain ⟨W5, hW5⟩ : ∃ W5, W5 = wg.alloc (.cells #[.slice none 0 0] 63) := ⟨_, rfl⟩
    have HB5 : Hid (Below w.heap.size w W5) := by show Below _ _ _; rw [hW5]; exact (HBG.out).alloc (HBG.out).size _
    obtain ⟨vs, v1, v2, v3, v4, v5⟩ := (HO.out.keep HB5.out).vs
    have V2 : Hid (W5.ownsRow N 54 1 (.slice (some ⟨g0, 0, none⟩) l.length lc) l.length vs) := v2
    have HF : Hid (∀ lo' lc' W2, W2.ownsRow N 54 1 (.slice lo' (l.length + 1) lc') (l.length + 1) (vs ++ [spV f2 n2]) → Grw N (some ⟨g0, 0, none⟩) lo' W5 W2 → JnP S N w (l ++ [⟨false, f2, n2, []⟩]) (.returned (.slice lo' (l.length + 1) lc')) W2) := fun lo' lc' W2 h1 h2 => jn_app HO.out HB5.out v1 v2 v3 v4 v5 ⟨.inl ⟨rfl, rfl⟩⟩ (fun B hB => by obtain ⟨q1, q2, q3⟩ := hB; cases q3) h1 h2
    clear v1 v2 v3 v4 v5
    go_upto_region 8 with fail
    rw [← hW5]
    clear hW5
    go_wp2_with (first
      | (have hz := V2; clear hz; at_builtin; refine wpList_append_part rfl (.tmp 42) (.tmp 44) rfl N (Nat.le_trans HO.out.sz HB5.out.size) (some ⟨g0, 0, none⟩) l.length lc vs rfl V2.out W5.heap.size rfl rfl (spV f2 n2) rfl (by have := HLL.out; omega) ?_; intro lo3 lc3 w3 ho3 hg3; have H3 := HF.out lo3 lc3 w3 ho3 hg3; have H3 : Hid (JnP S N w (l ++ [⟨false, f2, n2, []⟩]) (.returned (.slice lo3 (l.length + 1) lc3)) w3) := H3; clear ho3 hg3 V2))
    go_ret
    rw [HJ.out]
    exact H3.out
set_option maxHeartbeats 600000 in
theorem cjoinS_L (S : Nat → Prop) (N : Nat) (w : World) (m : List Pt) (alay : Bool) (fa na : Nat) (ab : List By) (lo : Option Addr) (lc : Nat) (f2 n2 : Nat) (h : OuR S N w (m ++ [⟨alay, fa, na, ab⟩]) lo lc) (hl : m.length + 1 ≤ 1000000) (hala : alay = true) (hna : 1 ≤ na ∧ na ≤ 524288) (hfa : fa ≤ 524288) (hn1 : 1 ≤ n2) (hn2 : n2 ≤ 524288) (hx : f2 + n2 ≤ 524288) : Calls Tryd.prog 30 #[.slice lo (m.length + 1) lc, spV f2 n2] w (JnP S N w (joinP (m ++ [⟨alay, fa, na, ab⟩]) ⟨false, f2, n2, []⟩)) := by
  obtain ⟨l, hle⟩ : ∃ l : List Pt, l = m ++ [⟨alay, fa, na, ab⟩] := ⟨_, rfl⟩
  rw [← hle] at h
  have HO : Hid (OuR S N w l lo lc) := h
  have HN2 : Hid (1 ≤ n2 ∧ n2 ≤ 524288) := ⟨hn1, hn2⟩
  have hln : l.length = m.length + 1 := by rw [hle]; simp
  have HLL : Hid (l.length ≤ 1000000) := by show _ ≤ _; omega
  have hat : l[m.length]? = some ⟨alay, fa, na, ab⟩ := by rw [hle, List.getElem?_append_right (Nat.le_refl _)]; simp
  have hgl : l.getLast? = some ⟨alay, fa, na, ab⟩ := by rw [hle]; exact List.getLast?_concat
  obtain ⟨vs0, u1, u2, u3, u4, u5⟩ := h.vs
  obtain ⟨va, hva⟩ : ∃ va, vs0[m.length]? = some va := ⟨_, List.getElem?_eq_getElem (by omega)⟩
  have hOa := u3 _ _ _ hat hva
  obtain ⟨g0, hg0, hc0⟩ : ∃ g, lo = some ⟨g, 0, none⟩ ∧ w.cell? ⟨g, m.length, none⟩ = some va := by
    rcases u2.2 with ⟨e1, e2⟩ | ⟨g, c', cur, e1, _⟩
    · omega
    · injection e1 with e1
      subst e1
      have := u2.cells (g := g) rfl m.length va hva
      rw [Addr.add_mid, Nat.zero_add] at this
      exact ⟨g, rfl, this⟩
  obtain ⟨Ba, ca, e, hown⟩ : ∃ Ba ca, va = layV (some ⟨Ba, 0, none⟩) na ca ∧ Own N w (.slice (some ⟨Ba, 0, none⟩) na ca) ab := by
    rcases hOa.eq with ⟨e, _⟩ | ⟨_, Ba, ca, e, ho⟩
    · rw [hala] at e; cases e
    · exact ⟨Ba, ca, e, ho⟩
  subst e
  have z1 : IntKind.i64.wrap ((l.length : Int) - 1) = (m.length : Int) := by rw [hln, i64_in _ (by omega) (by omega)]; omega
  have y0 : (0 : Int) ≤ (m.length : Int) := by omega
  have y0b : decide ((0 : Int) ≤ (m.length : Int)) = true := by rw [decide_eq_true_iff]; omega
  have y1 : (m.length : Int) < (l.length : Int) := by omega
  have GOS : Hid (∀ W, Calls Tryd.prog 41 #[layV (some ⟨Ba, 0, none⟩) na ca, spV f2 n2] W fun e w' => e = .returned (.bool false) ∧ Below W.heap.size W w') := fun W => goes_ls (some ⟨Ba, 0, none⟩) na ca f2 n2 W
  have GOF := GOS
  have HJ : Hid (joinP (m ++ [⟨alay, fa, na, ab⟩]) ⟨false, f2, n2, []⟩ = l ++ [⟨false, f2, n2, []⟩]) := by
    show _ = _
    rw [← hle]
    unfold joinP
    rw [hgl]
    simp only
    rw [if_neg (by unfold goB; rw [hala]; simp)]
  rw [← hln]
  clear h hl hle hln hat hgl u1 u2 u3 u4 u5 hva hOa hna hn1 hn2
  subst hg0
  go_enter Tryd.func30, Tryd.ntmps30
  go_wp2_with fail
  refine (GOF.out _).mono ?_
  rintro e wg ⟨rfl, hbg⟩
  have HBG : Hid (Below w.heap.size w wg) := hbg
  clear hbg hc0
  dsimp only
  have TX : ∀ W, Sem.run Tryd.prog (Instr.typeAssert (.iface 66 (.agg #[.int .i64 (f2 : Int), .int .i64 (n2 : Int)])) 54 63 true) W = .ok (.tuple #[.agg #[.slice none 0 0], .bool false]) W := fun W => by kernel_rfl
  obtain ⟨W5, hW5⟩ : ∃ W5, W5 = wg.alloc (.cells #[.slice none 0 0] 63) := ⟨_, rfl⟩
  have HB5 : Hid (Below w.heap.size w W5) := by show Below _ _ _; rw [hW5]; exact (HBG.out).alloc (HBG.out).size _
  obtain ⟨vs, v1, v2, v3, v4, v5⟩ := (HO.out.keep HB5.out).vs
  have V2 : Hid (W5.ownsRow N 54 1 (.slice (some ⟨g0, 0, none⟩) l.length lc) l.length vs) := v2
  have HF : Hid (∀ lo' lc' W2, W2.ownsRow N 54 1 (.slice lo' (l.length + 1) lc') (l.length + 1) (vs ++ [spV f2 n2]) → Grw N (some ⟨g0, 0, none⟩) lo' W5 W2 → JnP S N w (l ++ [⟨false, f2, n2, []⟩]) (.returned (.slice lo' (l.length + 1) lc')) W2) := fun lo' lc' W2 h1 h2 => jn_app HO.out HB5.out v1 v2 v3 v4 v5 ⟨.inl ⟨rfl, rfl⟩⟩ (fun B hB => by obtain ⟨q1, q2, q3⟩ := hB; cases q3) h1 h2
  clear v1 v2 v3 v4 v5
  go_upto_region 8 with fail
  rw [← hW5]
  clear hW5
  go_wp2_with (first
    | (have hz := V2; clear hz; at_builtin; refine wpList_append_part rfl (.tmp 42) (.tmp 44) rfl N (Nat.le_trans HO.out.sz HB5.out.size) (some ⟨g0, 0, none⟩) l.length lc vs rfl V2.out W5.heap.size rfl rfl (spV f2 n2) rfl (by have := HLL.out; omega) ?_; intro lo3 lc3 w3 ho3 hg3; have H3 := HF.out lo3 lc3 w3 ho3 hg3; have H3 : Hid (JnP S N w (l ++ [⟨false, f2, n2, []⟩]) (.returned (.slice lo3 (l.length + 1) lc3)) w3) := H3; clear ho3 hg3 V2))
  go_ret
  rw [HJ.out]
  exact H3.out
set_option maxHeartbeats 600000 in
theorem cjoinL_S (S : Nat → Prop) (N : Nat) (w : World) (m : List Pt) (alay : Bool) (fa na : Nat) (ab : List By) (lo : Option Addr) (lc : Nat) (B2 off2 n2 c2 : Nat) (b2 : List By) (h : OuR S N w (m ++ [⟨alay, fa, na, ab⟩]) lo lc) (hl : m.length + 1 ≤ 1000000) (hala : alay = false) (hna : 1 ≤ na ∧ na ≤ 524288) (hfa : fa ≤ 524288) (hn1 : 1 ≤ n2) (hn2 : n2 ≤ 524288) (hb2 : b2.length = n2) (hi2 : IsB w (some ⟨B2, off2, none⟩) b2) : Calls Tryd.prog 30 #[.slice lo (m.length + 1) lc, layV (some ⟨B2, off2, none⟩) n2 c2] w (JnP S N w (joinP (m ++ [⟨alay, fa, na, ab⟩]) ⟨true, 0, n2, b2⟩)) := by
  obtain ⟨l, hle⟩ : ∃ l : List Pt, l = m ++ [⟨alay, fa, na, ab⟩] := ⟨_, rfl⟩
  rw [← hle] at h
  have HO : Hid (OuR S N w l lo lc) := h
  have HN2 : Hid (1 ≤ n2 ∧ n2 ≤ 524288) := ⟨hn1, hn2⟩
  have hln : l.length = m.length + 1 := by rw [hle]; simp
  have HLL : Hid (l.length ≤ 1000000) := by show _ ≤ _; omega
  have hat : l[m.length]? = some ⟨alay, fa, na, ab⟩ := by rw [hle, List.getElem?_append_right (Nat.le_refl _)]; simp
  have hgl : l.getLast? = some ⟨alay, fa, na, ab⟩ := by rw [hle]; exact List.getLast?_concat
  obtain ⟨vs0, u1, u2, u3, u4, u5⟩ := h.vs
  obtain ⟨va, hva⟩ : ∃ va, vs0[m.length]? = some va := ⟨_, List.getElem?_eq_getElem (by omega)⟩
  have hOa := u3 _ _ _ hat hva
  obtain ⟨g0, hg0, hc0⟩ : ∃ g, lo = some ⟨g, 0, none⟩ ∧ w.cell? ⟨g, m.length, none⟩ = some va := by
    rcases u2.2 with ⟨e1, e2⟩ | ⟨g, c', cur, e1, _⟩
    · omega
    · injection e1 with e1
      subst e1
      have := u2.cells (g := g) rfl m.length va hva
      rw [Addr.add_mid, Nat.zero_add] at this
      exact ⟨g, rfl, this⟩
  obtain rfl : va = spV fa na := by
    rcases hOa.eq with ⟨_, e⟩ | ⟨e, _⟩
    · exact e
    · rw [hala] at e; cases e
  have z1 : IntKind.i64.wrap ((l.length : Int) - 1) = (m.length : Int) := by rw [hln, i64_in _ (by omega) (by omega)]; omega
  have y0 : (0 : Int) ≤ (m.length : Int) := by omega
  have y0b : decide ((0 : Int) ≤ (m.length : Int)) = true := by rw [decide_eq_true_iff]; omega
  have y1 : (m.length : Int) < (l.length : Int) := by omega
  have GOS : Hid (∀ W, Calls Tryd.prog 41 #[spV fa na, layV (some ⟨B2, off2, none⟩) n2 c2] W fun e w' => e = .returned (.bool false) ∧ Below W.heap.size W w') := fun W => goes_sl fa na (some ⟨B2, off2, none⟩) n2 c2 W
  have HBB : Hid (b2.length = n2 ∧ IsB w (some ⟨B2, off2, none⟩) b2) := ⟨hb2, hi2⟩
  clear hb2 hi2
  have GOF := GOS
  have HJ : Hid (joinP (m ++ [⟨alay, fa, na, ab⟩]) ⟨true, 0, n2, b2⟩ = l ++ [⟨true, 0, n2, b2⟩]) := by
    show _ = _
    rw [← hle]
    unfold joinP
    rw [hgl]
    simp only
    rw [if_neg (by unfold goB; rw [hala]; simp)]
  rw [← hln]
  clear h hl hle hln hat hgl u1 u2 u3 u4 u5 hva hOa hna hn1 hn2
  subst hg0
  go_enter Tryd.func30, Tryd.ntmps30
  go_wp2_with fail
  refine (GOF.out _).mono ?_
  rintro e wg ⟨rfl, hbg⟩
  have HBG : Hid (Below w.heap.size w wg) := hbg
  clear hbg hc0
  dsimp only
  have TX : ∀ W, Sem.run Tryd.prog (Instr.typeAssert (.iface 63 (.agg #[.slice (some ⟨B2, off2, none⟩) n2 c2])) 54 63 true) W = .ok (.tuple #[.agg #[.slice (some ⟨B2, off2, none⟩) n2 c2], .bool true]) W := fun W => by kernel_rfl
  obtain ⟨W5, hW5⟩ : ∃ W5, W5 = wg.alloc (.cells #[.slice (some ⟨B2, off2, none⟩) n2 c2] 63) := ⟨_, rfl⟩
  have HB5 : Hid (Below w.heap.size w W5) := by show Below _ _ _; rw [hW5]; exact (HBG.out).alloc (HBG.out).size _
  have c5 : W5.cell? ⟨wg.heap.size, 0, none⟩ = some (.slice (some ⟨B2, off2, none⟩) n2 c2) := by rw [hW5]; exact (Row.at wg 63 [.slice (some ⟨B2, off2, none⟩) n2 c2] _ _ rfl rfl).cell 0 _ rfl
  have FC : Hid (Calls Tryd.prog 43 #[.slice (some ⟨B2, off2, none⟩) n2 c2] W5 (ClnP W5 n2 b2)) := cclone_any W5 B2 off2 n2 c2 b2 HBB.out.1 (by have := HN2.out; omega) (by have := HN2.out; omega) (HBB.out.2.below HB5.out (Nat.le_refl _))
  go_wp2_with (first
    | (have hz := hW5; clear hz; refine wpList_at25 hW5 ?_; clear hW5)
    | (have hz := FC; clear hz; go_at_call 43; refine FC.out.mono ?_; rintro e w6 ⟨C, c6, rfl, ho6, hb6⟩; have HB6 : Hid (Below w.heap.size w w6 ∧ Own W5.heap.size w6 (.slice (some ⟨C, 0, none⟩) n2 c6) b2) := ⟨HB5.out.trans (hb6.mono HB5.out.size), ho6⟩; clear ho6 hb6 FC c5; obtain ⟨vs, v1, v2, v3, v4, v5⟩ := (HO.out.keep HB6.out.1).vs; have V2 : Hid (w6.ownsRow N 54 1 (.slice (some ⟨g0, 0, none⟩) l.length lc) l.length vs) := v2; have HF : Hid (∀ lo' lc' W2, W2.ownsRow N 54 1 (.slice lo' (l.length + 1) lc') (l.length + 1) (vs ++ [layV (some ⟨C, 0, none⟩) n2 c6]) → Grw N (some ⟨g0, 0, none⟩) lo' w6 W2 → JnP S N w (l ++ [⟨true, 0, n2, b2⟩]) (.returned (.slice lo' (l.length + 1) lc')) W2) := (fun lo' lc' W2 h1 h2 => jn_app HO.out HB6.out.1 v1 v2 v3 v4 v5 ⟨.inr ⟨rfl, C, c6, rfl, own_le HB6.out.2 (Nat.le_trans HO.out.sz HB5.out.size)⟩⟩ (fun B hB => by obtain ⟨q1, q2, q3⟩ := hB; have := layV_blk0 q3; subst this; exact Nat.le_trans HB5.out.size HB6.out.2.lt.1) h1 h2); clear v1 v2 v3 v4 v5)
    | (have hz := V2; clear hz; at_builtin; refine wpList_append_part rfl (.tmp 42) (.tmp 44) rfl N (Nat.le_trans HO.out.sz HB6.out.1.size) (some ⟨g0, 0, none⟩) l.length lc vs rfl V2.out w6.heap.size rfl rfl (layV (some ⟨C, 0, none⟩) n2 c6) rfl (by have := HLL.out; omega) ?_; intro lo3 lc3 w3 ho3 hg3; have H3 := HF.out lo3 lc3 w3 ho3 hg3; have H3 : Hid (JnP S N w (l ++ [⟨true, 0, n2, b2⟩]) (.returned (.slice lo3 (l.length + 1) lc3)) w3) := H3; clear ho3 hg3 V2))
  go_ret
  rw [HJ.out]
  exact H3.out
set_option maxHeartbeats 600000 in
theorem cjoinL_L (S : Nat → Prop) (N : Nat) (w : World) (m : List Pt) (alay : Bool) (fa na : Nat) (ab : List By) (lo : Option Addr) (lc : Nat) (B2 off2 n2 c2 : Nat) (b2 : List By) (h : OuR S N w (m ++ [⟨alay, fa, na, ab⟩]) lo lc) (hl : m.length + 1 ≤ 1000000) (hala : alay = true) (hna : 1 ≤ na ∧ na ≤ 524288) (hfa : fa ≤ 524288) (hn1 : 1 ≤ n2) (hn2 : n2 ≤ 524288) (hb2 : b2.length = n2) (hi2 : IsB w (some ⟨B2, off2, none⟩) b2) : Calls Tryd.prog 30 #[.slice lo (m.length + 1) lc, layV (some ⟨B2, off2, none⟩) n2 c2] w (JnP S N w (joinP (m ++ [⟨alay, fa, na, ab⟩]) ⟨true, 0, n2, b2⟩)) := by
  obtain ⟨l, hle⟩ : ∃ l : List Pt, l = m ++ [⟨alay, fa, na, ab⟩] := ⟨_, rfl⟩
  rw [← hle] at h
  have HO : Hid (OuR S N w l lo lc) := h
  have HN2 : Hid (1 ≤ n2 ∧ n2 ≤ 524288) := ⟨hn1, hn2⟩
  have hln : l.length = m.length + 1 := by rw [hle]; simp
  have HLL : Hid (l.length ≤ 1000000) := by show _ ≤ _; omega
  have hat : l[m.length]? = some ⟨alay, fa, na, ab⟩ := by rw [hle, List.getElem?_append_right (Nat.le_refl _)]; simp
  have hgl : l.getLast? = some ⟨alay, fa, na, ab⟩ := by rw [hle]; exact List.getLast?_concat
  obtain ⟨vs0, u1, u2, u3, u4, u5⟩ := h.vs
  obtain ⟨va, hva⟩ : ∃ va, vs0[m.length]? = some va := ⟨_, List.getElem?_eq_getElem (by omega)⟩
  have hOa := u3 _ _ _ hat hva
  obtain ⟨g0, hg0, hc0⟩ : ∃ g, lo = some ⟨g, 0, none⟩ ∧ w.cell? ⟨g, m.length, none⟩ = some va := by
    rcases u2.2 with ⟨e1, e2⟩ | ⟨g, c', cur, e1, _⟩
    · omega
    · injection e1 with e1
      subst e1
      have := u2.cells (g := g) rfl m.length va hva
      rw [Addr.add_mid, Nat.zero_add] at this
      exact ⟨g, rfl, this⟩
  obtain ⟨Ba, ca, e, hown⟩ : ∃ Ba ca, va = layV (some ⟨Ba, 0, none⟩) na ca ∧ Own N w (.slice (some ⟨Ba, 0, none⟩) na ca) ab := by
    rcases hOa.eq with ⟨e, _⟩ | ⟨_, Ba, ca, e, ho⟩
    · rw [hala] at e; cases e
    · exact ⟨Ba, ca, e, ho⟩
  subst e
  have z1 : IntKind.i64.wrap ((l.length : Int) - 1) = (m.length : Int) := by rw [hln, i64_in _ (by omega) (by omega)]; omega
  have y0 : (0 : Int) ≤ (m.length : Int) := by omega
  have y0b : decide ((0 : Int) ≤ (m.length : Int)) = true := by rw [decide_eq_true_iff]; omega
  have y1 : (m.length : Int) < (l.length : Int) := by omega
  have GOS : Hid (∀ W, Calls Tryd.prog 41 #[layV (some ⟨Ba, 0, none⟩) na ca, layV (some ⟨B2, off2, none⟩) n2 c2] W fun e w' => e = .returned (.bool true) ∧ Below W.heap.size W w') := fun W => goes_ll (some ⟨Ba, 0, none⟩) na ca (some ⟨B2, off2, none⟩) n2 c2 W
  have HBB : Hid (b2.length = n2 ∧ IsB w (some ⟨B2, off2, none⟩) b2) := ⟨hb2, hi2⟩
  clear hb2 hi2
  have FRZ : Hid (∀ W, Below w.heap.size w W → W.frozen? ⟨g0, m.length, none⟩ = false) := fun W hW => by
    rcases u2.2 with ⟨e1, e2⟩ | ⟨g, c', cur, e1, _, hh, _⟩
    · omega
    · injection e1 with e1
      rw [hg0] at e1
      injection e1 with e1; injection e1 with e1
      subst e1
      have hr : Row w g0 54 cur.toList := by show w.heap[g0]? = _; rw [hh]
      exact (hr.below hW hr.lt).frozen _
  have GOF := GOS
  have HJ : Hid (joinP (m ++ [⟨alay, fa, na, ab⟩]) ⟨true, 0, n2, b2⟩ = m ++ [⟨true, 0, na + n2, ab ++ b2⟩]) := by
    show _ = _
    rw [← hle]
    unfold joinP
    rw [hgl]
    simp only
    rw [if_pos (by unfold goB; rw [hala]; rfl), hle, List.dropLast_concat]
    unfold asOneP
    rw [hala]
    rfl
  have FA : Hid (∀ W, Below w.heap.size w W → Calls Tryd.prog 42 #[layV (some ⟨Ba, 0, none⟩) na ca, layV (some ⟨B2, off2, none⟩) n2 c2] W (AoP N (some ⟨Ba, 0, none⟩) W (na + n2) (ab ++ b2))) := fun W hW => asone_ll N Ba na ca ab B2 off2 n2 c2 b2 W (hown.keep hW) HBB.out.1 (HBB.out.2.below hW (Nat.le_refl _)) (by omega) (by omega)
  have hSa : S Ba := u4 _ _ _ hva ⟨_, _, rfl⟩
  have HS2 : Hid (∀ W0 W B c, Below w.heap.size w W0 → Own N W (.slice (some ⟨B, 0, none⟩) (na + n2) c) (ab ++ b2) → Grw N (some ⟨Ba, 0, none⟩) (some ⟨B, 0, none⟩) W0 W → JnP S N w (m ++ [⟨true, 0, na + n2, ab ++ b2⟩]) (.returned (.slice (some ⟨g0, 0, none⟩) l.length lc)) (W.setCell ⟨g0, m.length, none⟩ (layV (some ⟨B, 0, none⟩) (na + n2) c))) := fun W0 W B c hW0 hoB hg => by
    rw [hln]
    have h2 := h
    rw [hle] at h2
    subst hg0
    have hgw : Grw N (some ⟨Ba, 0, none⟩) (some ⟨B, 0, none⟩) w W := (Grw.of_below hW0 h.sz).trans hg
    refine jn_set h2 (x := ⟨true, 0, na + n2, ab ++ b2⟩) (v := layV (some ⟨B, 0, none⟩) (na + n2) c) (.of_grw hgw (fun q e => by injection e with e; injection e with e; subst e; exact hSa)) hgw.size (fun vs q1 q2 q3 q4 q5 => ?_) ⟨.inr ⟨rfl, B, c, rfl, hoB⟩⟩
    have hvl : ∃ vl, vs[m.length]? = some vl := ⟨_, List.getElem?_eq_getElem (by omega)⟩
    obtain ⟨vl, hvl⟩ := hvl
    have evl : vl = layV (some ⟨Ba, 0, none⟩) na ca := by
      have k1 := q2.cells (g := g0) rfl m.length vl hvl
      rw [Addr.add_mid, Nat.zero_add] at k1
      rw [hc0] at k1
      injection k1 with k1
      exact k1.symm
    refine ⟨own_keepL q2 fun B3 e => ?_, fun i y u hi hy hu => ?_, fun B3 hB3 => ⟨?_, fun i u hi hu hB4 => ?_⟩⟩
    · refine hgw.oth B3 (by injection e with e; injection e with e; subst e; exact (q2.lt _ rfl).2) fun q e1 e2 => ?_
      injection e1 with e1; injection e1 with e1
      subst e1; subst e2
      exact own_par_ne q2 hown e
    · refine (q3 i y u (by rw [List.getElem?_append_left hi]; exact hy) hu).grw hgw (fun B3 hB3 e => ?_)
      injection e with e; injection e with e; subst e
      have := q5 i m.length u vl Ba hu hvl hB3 (by rw [evl]; exact ⟨_, _, rfl⟩)
      omega
    · obtain ⟨_, _, e⟩ := hB3
      have := layV_blk0 e
      subst this
      rcases hgw.loc with e1 | ⟨q, e1, hq⟩
      · injection e1 with e1; injection e1 with e1; subst e1; exact .inr hSa
      · injection e1 with e1; injection e1 with e1; subst e1; exact .inl hq
    · obtain ⟨_, _, e⟩ := hB3
      have := layV_blk0 e
      subst this
      rcases hgw.loc with e1 | ⟨q, e1, hq⟩
      · injection e1 with e1; injection e1 with e1; subst e1
        have := q5 i m.length u vl B hu hvl hB4 (by rw [evl]; exact ⟨_, _, rfl⟩)
        omega
      · injection e1 with e1; injection e1 with e1; subst e1
        have := (h.inS _ (q4 i u B hu hB4)).2
        omega
  have HC0 : Hid (∀ W0 W B, Below w.heap.size w W0 → Grw N (some ⟨Ba, 0, none⟩) (some ⟨B, 0, none⟩) W0 W → W.cell? ⟨g0, m.length, none⟩ = some (layV (some ⟨Ba, 0, none⟩) na ca) ∧ W.frozen? ⟨g0, m.length, none⟩ = false) := fun W0 W B hW0 hg => by
    have hgw : Grw N (some ⟨Ba, 0, none⟩) (some ⟨B, 0, none⟩) w W := (Grw.of_below hW0 h.sz).trans hg
    have hblk : W.heap[g0]? = w.heap[g0]? := hgw.oth g0 (cell_lt25 hc0) (fun q e1 e2 => by
      injection e1 with e1; injection e1 with e1
      subst e1; subst e2
      subst hg0
      exact own_par_ne u2 hown rfl)
    exact ⟨(World.cell?_of_block (w := w) (a := ⟨g0, m.length, none⟩) hblk).trans hc0, (World.frozen?_of_block (w := w) (a := ⟨g0, m.length, none⟩) hblk).trans (by have := FRZ.out w (Below.refl _ _); exact this)⟩
  rw [← hln]
  clear h hl hle hln hat hgl u1 u2 u3 u4 u5 hva hOa hna hn1 hn2 hown hSa
  subst hg0
  go_enter Tryd.func30, Tryd.ntmps30
  go_wp2_with fail
  refine (GOF.out _).mono ?_
  rintro e wg ⟨rfl, hbg⟩
  have HBG : Hid (Below w.heap.size w wg) := hbg
  have c1 : wg.cell? ⟨g0, m.length, none⟩ = some (layV (some ⟨Ba, 0, none⟩) na ca) := (hbg.cell (cell_lt25 hc0)).trans hc0
  clear hbg hc0
  dsimp only
  go_wp2_with fail
  refine (FA.out _ HBG.out).mono ?_
  rintro e wa ⟨B, c3, rfl, hoa, hga⟩
  obtain ⟨c4, f4⟩ := HC0.out _ _ _ HBG.out hga
  have H3 := HS2.out _ _ _ _ HBG.out hoa hga
  have H3 : Hid (JnP S N w (m ++ [⟨true, 0, na + n2, ab ++ b2⟩]) (.returned (.slice (some ⟨g0, 0, none⟩) l.length lc)) (wa.setCell ⟨g0, m.length, none⟩ (layV (some ⟨B, 0, none⟩) (na + n2) c3))) := H3
  clear hoa hga c1
  dsimp only
  go_wp2
  go_ret
  rw [HJ.out]
  exact H3.out
end Go.Proofs.YtdfbfheceobboaaDoor
