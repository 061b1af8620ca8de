
import Derived.Test.YtepafpnpmpijeaaK12FolM
/-! KeysFollows: what is signed is checked; nothing hangs on the order of the secrets. -/
namespace Go.Proofs.Ytepafpnpmpijeaa
open Go.RowKit
set_option linter.unusedVariables false

/-- Secrets taken out of others, in a row of the call's own. -/
structure OthO (N : Nat) (w : World) (oo : Option Addr) (no co : Nat) (vo : List Value) (o : Secs) (vs : List Value) (l : Secs) : Prop where
  len : o.length = no
  vlen : vo.length = o.length
  own : w.ownsRow N 42 2 (.slice oo no co) no (secCells o vo)
  sub : ∀ i, i < o.length → ∃ j, j < l.length ∧ o.getD i (0, []) = l.getD j (0, []) ∧ vo.getD i undef = vs.getD j undef
theorem OthO.to {N : Nat} {w : World} {oo : Option Addr} {no co : Nat} {vo : List Value} {o : Secs} {vs : List Value} {l : Secs} (h : OthO N w oo no co vo o vs l) : SubS o l := fun i hi => by
  obtain ⟨j, hj, e, _⟩ := h.sub i hi
  exact ⟨j, hj, e⟩
theorem OthO.new (N : Nat) (w : World) (hN : N ≤ w.heap.size) (vs : List Value) (l : Secs) : OthO N (w.alloc (.cells #[] 42)) (some ⟨w.heap.size, 0, none⟩) 0 0 [] [] vs l where
  len := rfl
  vlen := rfl
  own := ⟨by simp [secCells], .inr ⟨w.heap.size, 0, #[], rfl, hN, heap_alloc_new w _, Nat.le_refl _, by unfold maxLen; omega, by simp, by simp [secCells]⟩⟩
  sub i hi := absurd hi (by simp)
theorem OthO.keep {N : Nat} {w w' : World} {oo : Option Addr} {no co : Nat} {vo : List Value} {o : Secs} {vs : List Value} {l : Secs} (h : OthO N w oo no co vo o vs l) (hb : Below w.heap.size w w') : OthO N w' oo no co vo o vs l :=
  ⟨h.len, h.vlen, owns_blk h.own fun B e => hb.block B (h.own.lt B e).2, h.sub⟩
theorem OthO.sec {N : Nat} {w : World} {oo : Option Addr} {no co : Nat} {vo : List Value} {o : Secs} {vs : List Value} {l : Secs} {B off : Nat} (h : OthO N w oo no co vo o vs l) (hin : SecIn w B off vs l) : ∃ q, (0 < no → oo = some ⟨q, 0, none⟩) ∧ SecIn w q 0 vo o := by
  have hown := h.own
  rcases h.own.2 with ⟨e, e2⟩ | ⟨q, c, cur, e, _⟩
  · refine ⟨0, fun h0 => absurd h0 (by omega), ⟨fun i hi => ?_, fun i hi => ?_, fun i hi => ?_⟩⟩ <;> exact absurd hi (by have := h.len; omega)
  · injection e with e1 _ _
    subst e1
    refine ⟨q, fun _ => rfl, ⟨fun i hi => ?_, fun i hi => ?_, fun i hi => ?_⟩⟩
    · rw [Nat.zero_add]
      have hc := secCells_at o vo i h.vlen hi
      exact (hown.cellAt (i * 2) (by have := h.len; omega)).trans hc.1
    · rw [Nat.zero_add]
      have hc := secCells_at o vo i h.vlen hi
      exact (hown.cellAt (i * 2 + 1) (by have := h.len; omega)).trans hc.2
    · obtain ⟨j, hj, e1, e2⟩ := h.sub i hi
      rw [e1, e2]
      exact hin.bytes j hj
theorem OthO.push {N : Nat} {w w2 : World} {oo oo' : Option Addr} {no co co' : Nat} {vo : List Value} {o : Secs} {vs : List Value} {l : Secs} (h : OthO N w oo no co vo o vs l) {j : Nat} (hj : j < l.length)
    (h2 : w2.ownsRow N 42 2 (.slice oo' (no + 1) co') (no + 1) (secCells o vo ++ [.int .i64 (l.getD j (0, [])).1, vs.getD j undef])) : OthO N w2 oo' (no + 1) co' (vo ++ [vs.getD j undef]) (o ++ [((l.getD j (0, [])).1, (l.getD j (0, [])).2)]) vs l where
  len := by rw [List.length_append, h.len]; rfl
  vlen := by rw [List.length_append, List.length_append, h.vlen]; rfl
  own := by rw [secCells_push _ _ _ _ _ h.vlen]; exact h2
  sub i hi := by
    rw [List.length_append, List.length_singleton] at hi
    rcases Nat.lt_or_ge i o.length with h1 | h1
    · obtain ⟨k, hk, e, e2⟩ := h.sub i h1
      refine ⟨k, hk, ?_, ?_⟩
      · rw [← e]; simp [List.getD_eq_getElem?_getD, List.getElem?_append_left h1]
      · rw [← e2]; simp [List.getD_eq_getElem?_getD, List.getElem?_append_left (show i < vo.length by rw [h.vlen]; exact h1)]
    · obtain rfl : i = o.length := by omega
      exact ⟨j, hj, by simp [List.getD_eq_getElem?_getD], by rw [← h.vlen]; simp [List.getD_eq_getElem?_getD]⟩

theorem wpList_load_sub_g {ops : Array Oper} {rest : List Oper} {op : Oper} {a : Act} {w : World} {Q : Exit → Act → World → Prop} (hw : Region.wanted op (yielded ops a.tmps) = true) (ty : TypeId) (x : Operand) (ho : op.op = .load ty x)
    (g o t n : Nat) (cs : List Value) (hr : Row w g t cs) (hx : a.eval x = .pointer (some ⟨g, o, none⟩)) (d : TypeDesc) (cs' : List Value) (hcs : (cs.drop o).take n = cs') (hn : cs'.length = n)
    (hu : Try.prog.underlying ty = some d) (hd : d.isRow = true) (hi : (Try.prog.info? ty).map (·.size) = some n)
    (h : wpList Try.prog ops Q rest (a.put op.dst (.agg cs'.toArray)) w) : wpList Try.prog ops Q (op :: rest) a w := by
  subst hcs
  refine wpList_step fun K hK => ?_
  rw [if_pos hw]
  exact wp_load_mid ty x ho g o hx _ d (hr.range o n) hu hd (by rw [hn]; exact hi) (hK _ _ h)

/-- Whole numbers that came in. -/
structure NumIn (w : World) (tn : Option Addr) (m q qo : Nat) (zs : List Int) : Prop where
  len : zs.length = m
  at_ : 0 < m → tn = some ⟨q, qo, none⟩
  cell : ∀ j, j < m → w.cell? ⟨q, qo + j, none⟩ = some (.int .i64 (zs.getD j 0))
theorem NumIn.keep {w w' : World} {tn : Option Addr} {m q qo : Nat} {zs : List Int} (h : NumIn w tn m q qo zs) (hb : Below w.heap.size w w') : NumIn w' tn m q qo zs :=
  ⟨h.len, h.at_, fun j hj => (hb.cell (cell_lt (h.cell j hj))).trans (h.cell j hj)⟩

set_option maxHeartbeats 2000000 in
set_option maxRecDepth 100000 in
theorem follows_any (w : World) (ao : Option Addr) (n cap B off : Nat) (vs : List Value) (l : Secs) (hn : l.length = n) (hao : 0 < n → ao = some ⟨B, off, none⟩) (hin : SecIn w B off vs l)
    (tn : Option Addr) (m tc tq tf : Nat) (zs : List Int) (hzs : NumIn w tn m tq tf zs) (hm47 : m ≤ 140737488355328) (a : AskV) (hok : AskOk w a) :
    Calls Try.prog 5 #[.slice ao n cap, .slice tn m tc, .agg (askC a).toArray] w fun e w' => e = .returned (.bool true) ∧ Below w.heap.size w w' := by
  have htl : a.t.length = 32 := hok.tl
  have bx : ∀ o1, Below w.heap.size w (w.alloc o1) := fun o1 => (Below.refl _ _).alloc (Nat.le_refl _) _
  have rx : Row (w.alloc (.cells (askC a).toArray 40)) w.heap.size 40 (askC a) := Row.at w _ _ _ _ rfl rfl
  have A := fun o1 => awake_any (w.alloc o1)
  have hACl := askC_len htl
  go_enter Try.func5, Try.ntmps5
  go_wp2_with fail
  refine (A _).mono ?_
  clear A
  rintro e w1 ⟨rfl, b1⟩
  replace rx := rx.below b1 (by simp)
  have b01 : Below w.heap.size w w1 := (bx _).trans (b1.mono (by simp))
  clear b1 bx
  have C := cnew_any w1 ao n cap B off vs l hn hao (hin.keep b01)
  go_wp2_with fail
  refine C.mono ?_
  clear C
  rintro e w3 ⟨b3, h3⟩
  replace rx := rx.below b3 rx.lt
  have HB3 : Hid (Below w.heap.size w w3) := b01.trans (b3.mono b01.size)
  clear b3 b01
  rcases h3 with ⟨er, i, hne, rfl⟩ | ⟨hne, g, b, cs, rfl, hk⟩
  · have her := newE_er hne
    clear hne hin hzs hok rx hao hn htl hACl
    rcases her with rfl | rfl | rfl | rfl
    all_goals go_wp2
    all_goals go_ret
    all_goals exact ⟨rfl, HB3.out⟩
  · have HE : Hid (newE l = none) := hne
    have HK : Hid (∀ W, Below w3.heap.size w3 W → KgO w1.heap.size w3.heap.size W g b cs l) := fun W h => hk.below h
    have HIN : Hid (∀ W, Below w3.heap.size w3 W → SecIn W B off vs l) := fun W h => (hin.keep HB3.out).keep h
    have HZ : Hid (∀ W, Below w3.heap.size w3 W → NumIn W tn m tq tf zs) := fun W h => (hzs.keep HB3.out).keep h
    have HA : Hid (∀ W, Below w3.heap.size w3 W → AskOk W a) := fun W h => (hok.keep HB3.out).keep h
    have HX : Hid (∀ W, Below w3.heap.size w3 W → Row W w.heap.size 40 (askC a)) := fun W h => rx.below h rx.lt
    have HAO : Hid (0 < n → ao = some ⟨B, off, none⟩) := hao
    have HN : Hid (l.length = n) := hn
    have h64 : n ≤ 64 := by rw [← hn]; exact (newE_none hne).1
    have o0 : Hid (OthO w3.heap.size (w3.alloc (.cells #[] 42)) (some ⟨w3.heap.size, 0, none⟩) 0 0 [] [] vs l) := OthO.new _ w3 (Nat.le_refl _) vs l
    have bo0 : Hid (Below w3.heap.size w3 (w3.alloc (.cells #[] 42))) := (Below.refl _ _).alloc (Nat.le_refl _) _
    clear hne hk hin hzs hok rx hao hn
    go_wp2
    go_loopw [10, 45] (fun lv iv wr => ∃ (k no co : Nat) (oo : Option Addr) (vo : List Value) (o : Secs), k ≤ m ∧ no ≤ n ∧ lv = .slice oo no co ∧ iv = .int .i64 k ∧ Hid (OthO w3.heap.size wr oo no co vo o vs l) ∧ Hid (Below w3.heap.size w3 wr)) (fun _ iv _ => m - (intOf iv).toNat)
    case atStart => exact ⟨0, 0, 0, _, [], [], by omega, by omega, rfl, rfl, o0, bo0⟩
    case round =>
      clear o0 bo0
      obtain ⟨k, no, co, oo, vo, o, hk, hno, rfl, rfl, HO, HBW⟩ := hrel
      by_cases hlt : k < m
      · have y0 : (0 : Int) ≤ (k : Int) := by omega
        have y1 : (k : Int) < (m : Int) := by omega
        have hz := HZ.out _ HBW.out
        obtain rfl := hz.at_ (by omega)
        have hzc := hz.cell k hlt
        generalize zs.getD k 0 = z at hzc
        clear hz
        by_cases z0 : z < 0
        · have z0' : ¬ (0 : Int) ≤ z := by omega
          go_wp2
          exact ⟨⟨k + 1, no, co, oo, vo, o, by omega, by omega, rfl, by go_num, HO, HBW⟩, by simp [intOf]; omega⟩
        have z0' : (0 : Int) ≤ z := by omega
        by_cases z1 : z < (n : Int)
        rotate_left
        · go_wp2
          exact ⟨⟨k + 1, no, co, oo, vo, o, by omega, by omega, rfl, by go_num, HO, HBW⟩, by simp [intOf]; omega⟩
        by_cases z2 : no < n
        rotate_left
        · have z2' : ¬ (no : Int) < (n : Int) := by omega
          go_wp2
          exact ⟨⟨k + 1, no, co, oo, vo, o, by omega, by omega, rfl, by go_num, HO, HBW⟩, by simp [intOf]; omega⟩
        have z2' : (no : Int) < (n : Int) := by omega
        obtain ⟨j, rfl⟩ : ∃ j : Nat, z = j := ⟨z.toNat, by omega⟩
        have hj : j < l.length := by have := HN.out; omega
        have HJ : Hid (j < l.length) := hj
        obtain rfl := HAO.out (by omega)
        have hsc := HIN.out _ HBW.out
        have r0 : wr.rangeAt B (off + j * 2) [.int .i64 (l.getD j (0, [])).1, vs.getD j undef] := by
          intro q v hv
          match q, hv with
          | 0, hv => injection hv with hv; subst hv; exact hsc.key j hj
          | 1, hv => injection hv with hv; subst hv; exact hsc.sl j hj
        obtain ⟨bo, bc, ev, _⟩ := hsc.bytes j hj
        have PU : Hid (∀ (w2 : World) (oo' : Option Addr) (co' : Nat), w2.ownsRow w3.heap.size 42 2 (.slice oo' (no + 1) co') (no + 1) (secCells o vo ++ [.int .i64 (l.getD j (0, [])).1, vs.getD j undef]) → OthO w3.heap.size w2 oo' (no + 1) co' (vo ++ [vs.getD j undef]) (o ++ [((l.getD j (0, [])).1, (l.getD j (0, [])).2)]) vs l) := fun w2 oo' co' h2 => HO.out.push hj h2
        rw [ev] at r0 PU
        have HLJ : Hid ((l.getD j (0, [])).2 = (l.getD j (0, [])).2) := rfl
        generalize (l.getD j (0, [])).1 = kj at *
        generalize (l.getD j (0, [])).2 = bj at *
        clear hsc ev HLJ hj
        have ba : Hid (Below wr.heap.size wr (wr.alloc (.cells #[.int .i64 kj, .slice bo bj.length bc] 42))) := (Below.refl _ _).alloc (Nat.le_refl _) _
        have rB : Hid (Row (wr.alloc (.cells #[.int .i64 kj, .slice bo bj.length bc] 42)) wr.heap.size 42 [.int .i64 kj, .slice bo bj.length bc]) := Row.at wr _ _ _ _ rfl rfl
        go_wp2_with (first | (refine wpList_load_mid rfl 42 (.tmp 67) rfl B (off + j * 2) rfl [.int .i64 kj, .slice bo bj.length bc] _ r0 Try.underlying42 rfl (by kernel_rfl) ?_) | (at_builtin; refine wpList_append_where el_secs rfl (.tmp 64) (.tmp 69) rfl w3.heap.size w3 oo no co (secCells o vo) rfl (HO.out.keep ba.out).own (by have := HBW.out.size; simp; omega) (HBW.out.trans (ba.out.mono HBW.out.size)) wr.heap.size 0 1 1 [.int .i64 kj, .slice bo bj.length bc] rfl rfl (fun q u hu => by rw [Nat.zero_add]; exact rB.out.cell q u hu) (by omega) (by intro u hu; simp at hu; rcases hu with rfl | rfl <;> rfl) (by unfold maxLen; omega) (by omega) ?_; intro ao2 c2 w2 q1 q2 q3 q4 q5))
        exact ⟨⟨k + 1, no + 1, c2, ao2, _, _, by omega, by omega, rfl, by go_num, PU.out _ _ _ q1, q2⟩, by simp [intOf]; omega⟩
      · obtain rfl : k = m := by omega
        have y1 : ¬ ((k : Nat) : Int) < (k : Int) := by omega
        clear HZ hno hk hlt
        have hcap := (HA.out _ HBW.out).cap
        have hnil := (HA.out _ HBW.out).nil
        have hbig := (HA.out _ HBW.out).big
        have H256 := newE_256 HE.out
        have i0 : (askC a)[0]? = some (.int .i64 a.key) := rfl
        have i1 : (askC a)[1]? = some (.slice a.bo a.b.length a.cb) := rfl
        have it : ((askC a).drop 2).take 32 = a.t.map B8 := List.take_of_length_le (by simp [askC, htl])
        have S1 : Hid (∀ W, Below w3.heap.size w3 W → Calls Try.prog 12 #[.pointer (some ⟨g, 0, none⟩), .int .i64 a.key, .slice a.bo a.b.length a.cb] W fun e w' => e = .returned (.tuple #[.agg ((sgn l a.key a.b).map B8).toArray, .int .i64 (sgnE l a.key)]) ∧ Below W.heap.size W w') :=
          fun W h => csign_any (HK.out W h) H256 a.key a.bo a.b.length a.cb a.b rfl (HA.out W h).isb hcap hnil hbig
        obtain ⟨rt, hrt⟩ : ∃ rt, rt = decide (sgnE l a.key = 0 ∧ sgn l a.key a.b = a.t) := ⟨_, rfl⟩
        obtain ⟨rs, hrs⟩ : ∃ rs, rs = decide (sgnE l a.key = 0 ∧ sgn l a.key a.b = sgn l a.key a.b) := ⟨_, rfl⟩
        have C1 : Hid (∀ W, Below w3.heap.size w3 W → Calls Try.prog 13 #[.pointer (some ⟨g, 0, none⟩), .int .i64 a.key, .slice a.bo a.b.length a.cb, .agg (a.t.map B8).toArray] W fun e w' => e = .returned (.tuple #[.bool rt, .int .i64 (sgnE l a.key)]) ∧ Below W.heap.size W w') :=
          fun W h => by rw [hrt]; exact ccheck_any (HK.out W h) H256 a.key a.bo a.b.length a.cb a.b rfl (HA.out W h).isb hcap hnil hbig a.t htl
        have C3 : Hid (∀ W, Below w3.heap.size w3 W → Calls Try.prog 13 #[.pointer (some ⟨g, 0, none⟩), .int .i64 a.key, .slice a.bo a.b.length a.cb, .agg ((sgn l a.key a.b).map B8).toArray] W fun e w' => e = .returned (.tuple #[.bool rs, .int .i64 (sgnE l a.key)]) ∧ Below W.heap.size W w') :=
          fun W h => by rw [hrs]; exact ccheck_any (HK.out W h) H256 a.key a.bo a.b.length a.cb a.b rfl (HA.out W h).isb hcap hnil hbig _ (sgn_len _ _ _)
        have hrs2 : rs = (sgnE l a.key == 0) := by
          rw [hrs]; simp; rfl
        have HS : Hid (∀ W, Below w3.heap.size w3 W → Calls Try.prog 14 #[.pointer (some ⟨g, 0, none⟩), .int .i64 a.key] W fun e w' => e = .returned (.bool (sgnE l a.key == 0)) ∧ w' = W) := fun W h => by rw [sgnE_has]; exact chas_any (HK.out W h) a.key
        -- the other ring, where it has as many numbers
        have S2 : Hid (∀ (N M g2 b2 : Nat) (c2 : List Value) (W : World), newE o = none → (nums l 64).length ≤ (nums o 64).length → Below w3.heap.size w3 W → KgO N M W g2 b2 c2 o → Calls Try.prog 12 #[.pointer (some ⟨g2, 0, none⟩), .int .i64 a.key, .slice a.bo a.b.length a.cb] W fun e w' => e = .returned (.tuple #[.agg ((sgn l a.key a.b).map B8).toArray, .int .i64 (sgnE l a.key)]) ∧ Below W.heap.size W w') := by
          intro N M g2 b2 c2 W ho hnn hw hko
          have hsm := sub_same HE.out ho HO.out.to hnn
          have hsg := sub_sgn HE.out HO.out.to (hsm.2 a.key) a.b
          rw [← hsg.1, ← hsg.2]
          exact csign_any hko (newE_256 ho) a.key a.bo a.b.length a.cb a.b rfl (HA.out W hw).isb hcap hnil hbig
        have HSL : Hid ((sgn l a.key a.b).length = 32) := sgn_len l a.key a.b
        have HSE : Hid (sgnE l a.key = 0 ∨ sgnE l a.key = 13) := by
          show _ ∨ _
          unfold sgnE; split
          · exact .inl rfl
          · exact .inr rfl
        have HTL : Hid (a.t.length = 32) := htl
        have HRT : Hid (rt = decide (sgnE l a.key = 0 ∧ sgn l a.key a.b = a.t)) := hrt
        clear HA htl hcap hnil hbig hrt hrs H256
        subst hrs2
        generalize askC a = AC at *
        generalize sgn l a.key a.b = SG at *
        generalize sgnE l a.key = SE at *
        generalize a.key = ky at *
        generalize a.b.length = nb at *
        generalize a.bo = bo at *
        generalize a.cb = cb at *
        generalize a.t = tg at *
        have HIT : Hid ((AC.drop 2).take 32 = tg.map B8) := it
        have lsg : Hid ((SG.map B8).length = 32) := by show _ = _; rw [List.length_map, HSL.out]
        have ltg : Hid ((tg.map B8).length = 32) := by show _ = _; rw [List.length_map, HTL.out]
        clear it hACl
        have rx := HX.out _ HBW.out
        have c0 := rx.cell 0 _ i0
        have c1 := rx.cell 1 _ i1
        go_wp2_with fail
        refine (S1.out _ HBW.out).mono ?_
        rintro e w5 ⟨rfl, b5⟩
        have bw5 : Hid (Below w3.heap.size w3 w5) := HBW.out.trans (b5.mono HBW.out.size)
        have HO5 : Hid (OthO w3.heap.size w5 oo no co vo o vs l) := HO.out.keep b5
        clear b5 HBW c0 c1 S1 HO rx
        generalize hG5 : w5.heap.size = G5 at *
        have hg5 : w3.heap.size ≤ G5 := by rw [← hG5]; exact bw5.out.size
        go_wp2_with (first | (refine wpList_store_Row rfl 38 _ _ rfl G5 38 0 ((List.replicate 32 (0 : By)).map B8) (SG.map B8) (Row.at w5 _ _ _ _ hG5.symm rfl) (by simp [HSL.out]) rfl rfl (by rw [List.length_map, HSL.out]; kernel_rfl) (B8_one _) ?_; intro w6 hr6 hs6; have r5 := row_whole hr6 (by simp [HSL.out]); have b6 : Below w5.heap.size w5 w6 := hs6.below ((Below.refl _ _).alloc (Nat.le_refl _) _) (by omega); have bw6 : Hid (Below w3.heap.size w3 w6) := bw5.out.trans (b6.mono (by omega)); have HO6 : Hid (OthO w3.heap.size w6 oo no co vo o vs l) := HO5.out.keep b6; clear hr6 hs6 b6 bw5 HO5; have rx := HX.out _ bw6.out; have c0 := rx.cell 0 _ i0; have c1 := rx.cell 1 _ i1) | (refine wpList_load_Row rfl 38 (.tmp 13) rfl G5 38 (SG.map B8) r5 rfl _ Try.underlying38 rfl (by rw [lsg.out]; kernel_rfl) ?_))
        refine (C3.out _ bw6.out).mono ?_
        rintro e w7 ⟨rfl, b7⟩
        replace r5 := r5.below b7 r5.lt
        have bw7 : Hid (Below w3.heap.size w3 w7) := bw6.out.trans (b7.mono bw6.out.size)
        have HO7 : Hid (OthO w3.heap.size w7 oo no co vo o vs l) := HO6.out.keep b7
        clear b7 bw6 c0 c1 C3 HO6 rx hG5
        have rx := HX.out _ bw7.out
        have c0 := rx.cell 0 _ i0
        have c1 := rx.cell 1 _ i1
        go_wp2_with (refine wpList_load_part rfl 38 _ rfl w.heap.size 2 40 32 AC rx rfl _ (tg.map B8) HIT.out ltg.out Try.underlying38 rfl (by kernel_rfl) ?_)
        refine (C1.out _ bw7.out).mono ?_
        rintro e w8 ⟨rfl, b8⟩
        replace r5 := r5.below b8 r5.lt
        have bw8 : Hid (Below w3.heap.size w3 w8) := bw7.out.trans (b8.mono bw7.out.size)
        have HO8 : Hid (OthO w3.heap.size w8 oo no co vo o vs l) := HO7.out.keep b8
        clear b8 bw7 c0 c1 C1 HO7 rx
        have rx := HX.out _ bw8.out
        have c0 := rx.cell 0 _ i0
        have c1 := rx.cell 1 _ i1
        obtain ⟨r, hr⟩ : ∃ r, r = decide (tg = SG) := ⟨_, rfl⟩
        have q := eq_any tg SG HTL.out HSL.out r hr
        have HRR : Hid (SE = 0 → rt = r) := by
          intro h0
          rw [HRT.out, hr, h0]
          simp [eq_comm]
        have HR0 : Hid (SE = 13 → rt = false) := by
          intro h0
          rw [HRT.out, h0]
          simp
        clear hr HRT
        have HSW := HS.out _ bw8.out
        -- whatever the first ring tells of the key
        have N1 : Hid (∀ W, Below w3.heap.size w3 W → ∃ q, (0 < no → oo = some ⟨q, 0, none⟩) ∧ (OthO w3.heap.size W oo no co vo o vs l → SecIn W q 0 vo o)) := by
          intro W hW
          have := HO8.out
          rcases this.own.2 with ⟨e, e2⟩ | ⟨q, c, cur, e, _⟩
          · exact ⟨0, fun h0 => absurd h0 (by omega), fun h => by
              obtain ⟨q, _, h2⟩ := h.sec (HIN.out W hW)
              refine ⟨fun i hi => ?_, fun i hi => ?_, fun i hi => ?_⟩ <;> exact absurd hi (by have := h.len; omega)⟩
          · injection e with e1 _ _
            subst e1
            refine ⟨q, fun _ => rfl, fun h => ?_⟩
            obtain ⟨q2, h1, h2⟩ := h.sec (HIN.out W hW)
            by_cases h0 : 0 < no
            · have := h1 h0
              injection this with this
              injection this with this
              subst this
              exact h2
            · refine ⟨fun i hi => ?_, fun i hi => ?_, fun i hi => ?_⟩ <;> exact absurd hi (by have := h.len; omega)
        clear HS
        rcases HSE.out with rfl | rfl
        · obtain rfl := HRR.out rfl
          clear HSE HRR HR0
          go_wp2_with (first | (refine wpList_load_sub_g ?_ 38 (.tmp 121) rfl w.heap.size 2 40 32 AC rx rfl _ (tg.map B8) HIT.out ltg.out Try.underlying38 rfl (by kernel_rfl) ?_; · rfl) | (refine wpList_load_whole_g ?_ 38 (.tmp 13) rfl G5 38 32 (SG.map B8) r5 rfl _ lsg.out Try.underlying38 rfl (by kernel_rfl) ?_; · rfl))
          refine HSW.mono ?_
          clear HSW
          rintro e w8 ⟨rfl, rfl⟩
          obtain ⟨oq, hoq, hsec⟩ := N1.out _ bw8.out
          have NW := cnew_any w8 oo no co oq 0 vo o HO8.out.len hoq (hsec HO8.out)
          clear hsec hoq N1 rx c0 c1 q
          go_wp2_with fail
          refine NW.mono ?_
          clear NW
          rintro e w9 ⟨b9, h9⟩
          replace r5 := r5.below b9 r5.lt
          have bw9 : Hid (Below w3.heap.size w3 w9) := bw8.out.trans (b9.mono bw8.out.size)
          clear b9
          rcases h9 with ⟨er, i, hne, rfl⟩ | ⟨hne, g2, b2, c2, rfl, hk2⟩
          · have her := newE_er hne
            have BW : Hid (Below w.heap.size w w9) := HB3.out.trans (bw9.out.mono HB3.out.size)
            clear hne r5
            rcases her with rfl | rfl | rfl | rfl
            all_goals go_wp2
            all_goals go_ret
            all_goals exact ⟨rfl, BW.out⟩
          · have HK2 : Hid (∀ W, Below w9.heap.size w9 W → KgO w8.heap.size w9.heap.size W g2 b2 c2 o) := fun W h => hk2.below h
            have HNO : Hid (newE o = none) := hne
            have NA := cnumbers_any hk2
            clear hne hk2
            go_wp2_with fail
            refine NA.mono ?_
            clear NA
            rintro e w10 ⟨lo1, n1, d1, rfl, o1, b10⟩
            replace r5 := r5.below b10 r5.lt
            have bw10 : Hid (Below w3.heap.size w3 w10) := bw9.out.trans (b10.mono bw9.out.size)
            have NB := cnumbers_any (HK.out w10 bw10.out)
            go_wp2_with fail
            refine NB.mono ?_
            clear NB
            rintro e w11 ⟨lo2, n2, d2, rfl, o2, b11⟩
            replace r5 := r5.below b11 r5.lt
            have bw11 : Hid (Below w3.heap.size w3 w11) := bw10.out.trans (b11.mono bw10.out.size)
            have bq11 : Hid (Below w9.heap.size w9 w11) := b10.trans (b11.mono b10.size)
            have hl1 : Hid ((nums o 64).length = n1) := o1.len
            have hl2 : Hid ((nums l 64).length = n2) := o2.len
            clear o1 o2 b10 b11 bw10 bw9
            by_cases hcmp : n1 < n2
            · have hc' : (n1 : Int) < (n2 : Int) := by omega
              have BW : Hid (Below w.heap.size w w11) := HB3.out.trans (bw11.out.mono HB3.out.size)
              clear r5
              go_wp2
              go_ret
              exact ⟨rfl, BW.out⟩
            · have hc' : ¬ (n1 : Int) < (n2 : Int) := by omega
              have hnn : (nums l 64).length ≤ (nums o 64).length := by rw [hl1.out, hl2.out]; omega
              have SS := S2.out _ _ g2 b2 c2 w11 HNO.out hnn bw11.out (HK2.out _ bq11.out)
              have HSM : Hid (nums o 64 = nums l 64) := (sub_same HE.out HNO.out HO8.out.to hnn).1
              have rx := HX.out _ bw11.out
              have c0 := rx.cell 0 _ i0
              have c1 := rx.cell 1 _ i1
              clear hnn hcmp hl1
              go_wp2_with fail
              refine SS.mono ?_
              clear SS rx c0 c1
              rintro e w12 ⟨rfl, b12⟩
              replace r5 := r5.below b12 r5.lt
              have bw12 : Hid (Below w3.heap.size w3 w12) := bw11.out.trans (b12.mono bw11.out.size)
              have bq12 : Hid (Below w9.heap.size w9 w12) := bq11.out.trans (b12.mono bq11.out.size)
              clear b12 bw11 bq11
              generalize hG12 : w12.heap.size = G12 at *
              have hg12 : G5 < G12 := by rw [← hG12]; exact r5.lt
              go_wp2_with (refine wpList_store_Row rfl 38 _ _ rfl G12 38 0 ((List.replicate 32 (0 : By)).map B8) (SG.map B8) (Row.at w12 _ _ _ _ hG12.symm rfl) (by simp [HSL.out]) rfl rfl (by rw [List.length_map, HSL.out]; kernel_rfl) (B8_one _) ?_; intro w13 hr13 hs13; have r13 := row_whole hr13 (by simp [HSL.out]); have b13 : Below w12.heap.size w12 w13 := hs13.below ((Below.refl _ _).alloc (Nat.le_refl _) _) (by omega); clear hr13 hs13)
              replace r5 := r5.below b13 r5.lt
              have bw13 : Hid (Below w3.heap.size w3 w13) := bw12.out.trans (b13.mono bw12.out.size)
              have bq13 : Hid (Below w9.heap.size w9 w13) := bq12.out.trans (b13.mono bq12.out.size)
              clear b13 bw12 bq12 hG12
              refine (cnumbers_any (HK.out w13 bw13.out)).mono ?_
              rintro e w14 ⟨lo3, n3, d3, rfl, o3, b14⟩
              replace r5 := r5.below b14 r5.lt
              replace r13 := r13.below b14 r13.lt
              have bw14 : Hid (Below w3.heap.size w3 w14) := bw13.out.trans (b14.mono bw13.out.size)
              have bq14 : Hid (Below w9.heap.size w9 w14) := bq13.out.trans (b14.mono bq13.out.size)
              clear b14 bw13 bq13
              have ND := cnumbers_any (HK2.out w14 bq14.out)
              go_wp2_with fail
              refine ND.mono ?_
              clear ND
              rintro e w15 ⟨lo4, n4, d4, rfl, o4, b15⟩
              replace r5 := r5.below b15 r5.lt
              replace r13 := r13.below b15 r13.lt
              have bw15 : Hid (Below w3.heap.size w3 w15) := bw14.out.trans (b15.mono bw14.out.size)
              have hn3 : n3 ≤ 1000000 := by
                have h1 := o3.len
                have h2 := nums_len l 64
                omega
              have SM := sameInts_any w15 lo3 lo4 n3 d3 n4 d4 (nums l 64) (nums o 64) (o3.keep b15).rd o4.rd hn3
              rw [decide_eq_true HSM.out.symm] at SM
              clear b15 bw14 bq14 o3 o4 hn3
              go_wp2_with fail
              refine SM.mono ?_
              clear SM
              rintro e w16 ⟨rfl, dr⟩
              replace r5 := r5.dr dr
              replace r13 := r13.dr dr
              have BW : Hid (Below w.heap.size w w16) := Below_dr (HB3.out.trans (bw15.out.mono HB3.out.size)) dr
              have q := eq_any SG SG HSL.out HSL.out true (by simp)
              clear dr bw15
              go_wp2_with (first | (refine wpList_load_whole_g ?_ 38 (.tmp 21) rfl G12 38 32 (SG.map B8) r13 rfl _ lsg.out Try.underlying38 rfl (by kernel_rfl) ?_; · rfl) | (refine wpList_load_whole_g ?_ 38 (.tmp 13) rfl G5 38 32 (SG.map B8) r5 rfl _ lsg.out Try.underlying38 rfl (by kernel_rfl) ?_; · rfl))
              go_ret
              exact ⟨rfl, BW.out⟩
        · obtain rfl := HR0.out rfl
          clear HSE HRR HR0
          go_wp2_with fail
          refine HSW.mono ?_
          clear HSW
          rintro e w8 ⟨rfl, rfl⟩
          obtain ⟨oq, hoq, hsec⟩ := N1.out _ bw8.out
          have NW := cnew_any w8 oo no co oq 0 vo o HO8.out.len hoq (hsec HO8.out)
          clear hsec hoq N1 rx c0 c1 q
          go_wp2_with fail
          refine NW.mono ?_
          clear NW
          rintro e w9 ⟨b9, h9⟩
          replace r5 := r5.below b9 r5.lt
          have bw9 : Hid (Below w3.heap.size w3 w9) := bw8.out.trans (b9.mono bw8.out.size)
          clear b9
          rcases h9 with ⟨er, i, hne, rfl⟩ | ⟨hne, g2, b2, c2, rfl, hk2⟩
          · have her := newE_er hne
            have BW : Hid (Below w.heap.size w w9) := HB3.out.trans (bw9.out.mono HB3.out.size)
            clear hne r5
            rcases her with rfl | rfl | rfl | rfl
            all_goals go_wp2
            all_goals go_ret
            all_goals exact ⟨rfl, BW.out⟩
          · have HK2 : Hid (∀ W, Below w9.heap.size w9 W → KgO w8.heap.size w9.heap.size W g2 b2 c2 o) := fun W h => hk2.below h
            have HNO : Hid (newE o = none) := hne
            have NA := cnumbers_any hk2
            clear hne hk2
            go_wp2_with fail
            refine NA.mono ?_
            clear NA
            rintro e w10 ⟨lo1, n1, d1, rfl, o1, b10⟩
            replace r5 := r5.below b10 r5.lt
            have bw10 : Hid (Below w3.heap.size w3 w10) := bw9.out.trans (b10.mono bw9.out.size)
            have NB := cnumbers_any (HK.out w10 bw10.out)
            go_wp2_with fail
            refine NB.mono ?_
            clear NB
            rintro e w11 ⟨lo2, n2, d2, rfl, o2, b11⟩
            replace r5 := r5.below b11 r5.lt
            have bw11 : Hid (Below w3.heap.size w3 w11) := bw10.out.trans (b11.mono bw10.out.size)
            have bq11 : Hid (Below w9.heap.size w9 w11) := b10.trans (b11.mono b10.size)
            have hl1 : Hid ((nums o 64).length = n1) := o1.len
            have hl2 : Hid ((nums l 64).length = n2) := o2.len
            clear o1 o2 b10 b11 bw10 bw9
            by_cases hcmp : n1 < n2
            · have hc' : (n1 : Int) < (n2 : Int) := by omega
              have BW : Hid (Below w.heap.size w w11) := HB3.out.trans (bw11.out.mono HB3.out.size)
              clear r5
              go_wp2
              go_ret
              exact ⟨rfl, BW.out⟩
            · have hc' : ¬ (n1 : Int) < (n2 : Int) := by omega
              have hnn : (nums l 64).length ≤ (nums o 64).length := by rw [hl1.out, hl2.out]; omega
              have SS := S2.out _ _ g2 b2 c2 w11 HNO.out hnn bw11.out (HK2.out _ bq11.out)
              have HSM : Hid (nums o 64 = nums l 64) := (sub_same HE.out HNO.out HO8.out.to hnn).1
              have rx := HX.out _ bw11.out
              have c0 := rx.cell 0 _ i0
              have c1 := rx.cell 1 _ i1
              clear hnn hcmp hl1
              go_wp2_with fail
              refine SS.mono ?_
              clear SS rx c0 c1
              rintro e w12 ⟨rfl, b12⟩
              replace r5 := r5.below b12 r5.lt
              have bw12 : Hid (Below w3.heap.size w3 w12) := bw11.out.trans (b12.mono bw11.out.size)
              have bq12 : Hid (Below w9.heap.size w9 w12) := bq11.out.trans (b12.mono bq11.out.size)
              clear b12 bw11 bq11
              generalize hG12 : w12.heap.size = G12 at *
              have hg12 : G5 < G12 := by rw [← hG12]; exact r5.lt
              go_wp2_with (refine wpList_store_Row rfl 38 _ _ rfl G12 38 0 ((List.replicate 32 (0 : By)).map B8) (SG.map B8) (Row.at w12 _ _ _ _ hG12.symm rfl) (by simp [HSL.out]) rfl rfl (by rw [List.length_map, HSL.out]; kernel_rfl) (B8_one _) ?_; intro w13 hr13 hs13; have r13 := row_whole hr13 (by simp [HSL.out]); have b13 : Below w12.heap.size w12 w13 := hs13.below ((Below.refl _ _).alloc (Nat.le_refl _) _) (by omega); clear hr13 hs13)
              replace r5 := r5.below b13 r5.lt
              have bw13 : Hid (Below w3.heap.size w3 w13) := bw12.out.trans (b13.mono bw12.out.size)
              have bq13 : Hid (Below w9.heap.size w9 w13) := bq12.out.trans (b13.mono bq12.out.size)
              clear b13 bw12 bq12 hG12
              refine (cnumbers_any (HK.out w13 bw13.out)).mono ?_
              rintro e w14 ⟨lo3, n3, d3, rfl, o3, b14⟩
              replace r5 := r5.below b14 r5.lt
              replace r13 := r13.below b14 r13.lt
              have bw14 : Hid (Below w3.heap.size w3 w14) := bw13.out.trans (b14.mono bw13.out.size)
              have bq14 : Hid (Below w9.heap.size w9 w14) := bq13.out.trans (b14.mono bq13.out.size)
              clear b14 bw13 bq13
              have ND := cnumbers_any (HK2.out w14 bq14.out)
              go_wp2_with fail
              refine ND.mono ?_
              clear ND
              rintro e w15 ⟨lo4, n4, d4, rfl, o4, b15⟩
              replace r5 := r5.below b15 r5.lt
              replace r13 := r13.below b15 r13.lt
              have bw15 : Hid (Below w3.heap.size w3 w15) := bw14.out.trans (b15.mono bw14.out.size)
              have hn3 : n3 ≤ 1000000 := by
                have h1 := o3.len
                have h2 := nums_len l 64
                omega
              have SM := sameInts_any w15 lo3 lo4 n3 d3 n4 d4 (nums l 64) (nums o 64) (o3.keep b15).rd o4.rd hn3
              rw [decide_eq_true HSM.out.symm] at SM
              clear b15 bw14 bq14 o3 o4 hn3
              go_wp2_with fail
              refine SM.mono ?_
              clear SM
              rintro e w16 ⟨rfl, dr⟩
              replace r5 := r5.dr dr
              replace r13 := r13.dr dr
              have BW : Hid (Below w.heap.size w w16) := Below_dr (HB3.out.trans (bw15.out.mono HB3.out.size)) dr
              have q := eq_any SG SG HSL.out HSL.out true (by simp)
              clear dr bw15
              go_wp2_with (first | (refine wpList_load_whole_g ?_ 38 (.tmp 21) rfl G12 38 32 (SG.map B8) r13 rfl _ lsg.out Try.underlying38 rfl (by kernel_rfl) ?_; · rfl) | (refine wpList_load_whole_g ?_ 38 (.tmp 13) rfl G5 38 32 (SG.map B8) r5 rfl _ lsg.out Try.underlying38 rfl (by kernel_rfl) ?_; · rfl))
              go_ret
              exact ⟨rfl, BW.out⟩

end Go.Proofs.Ytepafpnpmpijeaa
