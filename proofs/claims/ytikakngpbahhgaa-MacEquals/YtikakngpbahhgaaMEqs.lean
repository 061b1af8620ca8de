import Derived.Test.YtikakngpbahhgaaMOpen
namespace Go.Proofs.Ytikakngpbahhgaa
open Go.RowKit

theorem equal_b (ao bo : Option Addr) (na nb ca cb : Nat) (a b : List By) (hna : a.length = na) (hnb : b.length = nb) (r : Bool) (hr : decide (a = b) = r) (w : World) (ha : IsB w ao a) (hb : IsB w bo b) (hla : na ≤ 140737488355328) (hlb : nb ≤ 140737488355328) :
    Calls Try.prog 12 #[.slice ao na ca, .slice bo nb cb] w fun e w' => e = .returned (.bool r) ∧ Below w.heap.size w w' := by
  subst hr
  refine (equal_any ao bo na nb ca cb a b hna hnb w ha hb hla hlb).mono ?_
  rintro e w' ⟨rfl, rfl⟩
  exact ⟨rfl, Below.refl _ _⟩
theorem refEqual_b (ao bo : Option Addr) (na nb ca cb : Nat) (a b : List By) (hna : a.length = na) (hnb : b.length = nb) (r : Bool) (hr : decide (a = b) = r) (w : World) (ha : IsB w ao a) (hb : IsB w bo b) (hla : na ≤ 140737488355328) (hlb : nb ≤ 140737488355328) :
    Calls Try.prog 13 #[.slice ao na ca, .slice bo nb cb] w fun e w' => e = .returned (.bool r) ∧ Below w.heap.size w w' := by
  subst hr; exact refEqual_any ao bo na nb ca cb a b hna hnb w ha hb hla hlb

theorem wpList_append_more_g {ops : Array Oper} {rest : List Oper} {o : Oper} {a : Act} {w : World} {Q : Exit → Act → World → Prop} (hw : Region.wanted o (yielded ops a.tmps) = true) (s x : Operand)
    (ho : o.op = .call { callee := .builtin .append, args := #[s, x], argTypes := #[22, 22] })
    (N : Nat) (a0 : World) (aoD : Option Addr) (nD capD : Nat) (m : List By) (hs : a.eval s = .slice aoD nD capD) (hD : m.length = nD) (hown : Own N w (.slice aoD nD capD) m) (hbel : Below N a0 w)
    (ao : Option Addr) (n cap : Nat) (bs : List By) (hx : a.eval x = .slice ao n cap) (hn : bs.length = n) (hb : IsB w ao bs) (hnil : ao = none → cap = 0) (hl : nD + n ≤ 140737488353280)
    (h : ∀ ao' cap' w', Own N w' (.slice ao' (nD + n) cap') (m ++ bs) → Below N a0 w' → wpList Try.prog ops Q rest (a.put o.dst (.slice ao' (nD + n) cap')) w') : wpList Try.prog ops Q (o :: rest) a w := by
  refine wpList_step fun K hK => ?_
  rw [if_pos hw]
  obtain ⟨ao', cap', w', hrun, h2, h3, _⟩ := run_append_more N a0 w o.type aoD nD capD m hD hown hbel ao n cap bs hn hb hnil hl
  unfold Oper.wp execOp
  simp only [ho, resolve, invoke, builtin, Sem.run_bind, Sem.run_pure, Result.andThen_ok, List.map_toArray, List.map_cons, List.map_nil, hs, hx, hrun]
  exact hK _ _ (h ao' cap' w' h2 h3)

theorem own_some {N : Nat} {w : World} {v : Value} {m : List By} (h : Own N w v m) (hp : 0 < m.length) : ∃ g c, v = .slice (some ⟨g, 0, none⟩) m.length c ∧ N ≤ g := by
  rcases h.1.2 with ⟨_, e0⟩ | ⟨g, c, cur, e, hg, _⟩
  · omega
  · exact ⟨g, c, e, hg⟩
theorem own_le {N N' : Nat} {w : World} {v : Value} {m : List By} (h : Own N w v m) (hN : N' ≤ N) : Own N' w v m := by
  refine ⟨⟨h.1.1, ?_⟩, Nat.le_trans hN h.2⟩
  rcases h.1.2 with h0 | ⟨g, c, cur, e, hg, r⟩
  · exact .inl h0
  · exact .inr ⟨g, c, cur, e, Nat.le_trans hN hg, r⟩
theorem own_set {N : Nat} {w : World} {g n c : Nat} {m : List By} (h : Own N w (.slice (some ⟨g, 0, none⟩) n c) m) (hn : m.length = n) (k : Nat) (y : By) : Own N (w.setCell ⟨g, k, none⟩ (.int .u8 (y.toNat : Int))) (.slice (some ⟨g, 0, none⟩) n c) (m.set k y) := by
  subst hn
  have h1 := (h.1.stored k (.int .u8 (y.toNat : Int))).1
  refine ⟨?_, by rw [(SameBut.setCell g k _ w).size]; exact h.2⟩
  rw [List.length_set, ← map_set_B8]; exact h1

set_option maxHeartbeats 1000000 in
set_option maxRecDepth 100000 in
theorem equals_any (ao bo : Option Addr) (na ca nb cb : Nat) (a b : List By) (pl : Int) (x : By) (hna : a.length = na) (hnb : b.length = nb) (w : World) (ha : IsB w ao a) (hb : IsB w bo b) (hnk : ao = none → ca = 0)
    (hma : na ≤ 140737488351232) (hmb : nb ≤ 140737488351232) :
    Calls Try.prog 4 #[.agg #[.slice ao na ca, .slice bo nb cb, .int .i64 pl, .int .u8 (x.toNat : Int)]] w fun e w' => e = .returned (.bool true) ∧ Below w.heap.size w w' := by
  have HA : Hid (a.length = na) := hna
  have HB : Hid (b.length = nb) := hnb
  have IA : Hid (∀ w', Below w.heap.size w w' → IsB w' ao a) := fun w' h => ha.below h (Nat.le_refl _)
  have IB : Hid (∀ w', Below w.heap.size w w' → IsB w' bo b) := fun w' h => hb.below h (Nat.le_refl _)
  clear hna hnb ha hb
  obtain ⟨r, hr⟩ : ∃ r, decide (a = b) = r := ⟨_, rfl⟩
  have HR : Hid (decide (a = b) = r) := hr
  have HR' : Hid (decide (b = a) = r) := by show _ = _; rw [← hr]; exact decide_eq_decide.2 eq_comm
  clear hr
  have b0 : ∀ o1 n, Below w.heap.size w ((w.alloc o1).drewN n) := fun o1 n => Below_drewN ((Below.refl _ _).alloc (Nat.le_refl _) _) n
  go_enter Try.func4, Try.ntmps4
  go_wp2
  go_quiet (fail)
  have b1 := b0 (.cells #[.slice ao na ca, .slice bo nb cb, .int .i64 pl, .int .u8 (x.toNat : Int)] 30) nq
  generalize ((w.alloc (.cells #[.slice ao na ca, .slice bo nb cb, .int .i64 pl, .int .u8 (x.toNat : Int)] 30)).drewN nq) = W at b1 ⊢
  by_cases h0 : 0 < na
  · have g0 : (0 : Int) < (na : Int) := by omega
    obtain ⟨kk, hkk, hr⟩ : ∃ kk : Nat, kk < na ∧ ((0 ≤ pl.tmod na ∧ pl.tmod na = kk) ∨ (pl.tmod na < 0 ∧ pl.tmod na + na = kk)) := by
      have h1 := Int.tmod_lt_of_pos pl g0
      have h2 := Int.lt_tmod_of_pos pl g0
      by_cases h0 : 0 ≤ pl.tmod na
      · exact ⟨(pl.tmod na).toNat, by omega, .inl ⟨h0, by omega⟩⟩
      · exact ⟨(pl.tmod na + na).toNat, by omega, .inr ⟨by omega, by omega⟩⟩
    have q1 : (0 : Int) ≤ (kk : Int) := by omega
    have q2 : (kk : Int) < (na : Int) := by omega
    have HOW : Hid (∀ w1 v1, Own W.heap.size w1 v1 a → ∃ g c1, v1 = .slice (some ⟨g, 0, none⟩) na c1 ∧ W.heap.size ≤ g ∧ Own W.heap.size w1 (.slice (some ⟨g, 0, none⟩) na c1) a ∧ w1.cell? ⟨g, kk, none⟩ = some (.int .u8 ((a.getD kk 0).toNat : Int)) ∧ w1.frozen? ⟨g, kk, none⟩ = false) := by
      intro w1 v1 ho
      obtain ⟨g, c1, rfl, hg⟩ := own_some ho (by rw [HA.out]; exact h0)
      rw [HA.out] at ho ⊢
      refine ⟨g, c1, rfl, hg, ho, ?_, ?_⟩
      · have h1 := ho.1
        rw [HA.out] at h1
        rw [h1.cellAt kk (by omega), List.getElem?_map, List.getD_eq_getElem?_getD, List.getElem?_eq_getElem (by rw [HA.out]; exact hkk)]; rfl
      · have h1 := ho.1
        rw [HA.out] at h1
        exact h1.frozenAt kk
    obtain ⟨y, hy⟩ : ∃ y, y = a.getD kk 0 := ⟨_, rfl⟩
    rw [← hy] at HOW
    clear hy
    have f1 := bits8_xor y x
    rcases hr with ⟨hr0, hr1⟩ | ⟨hr0, hr1⟩
    · have e2 : decide (pl.tmod na < 0) = false := by simpa using hr0
      go_wp2_with (at_builtin; refine wpList_append_IsB rfl (.const _) (.tmp 17) rfl ao ca na a HA.out.symm rfl rfl (IA.out _ b1) hnk (by have := HA.out; omega) ?_; intro v1 w1 ho1 hb1; obtain ⟨g1, c1, rfl, hgN, ho2, cl1, fz1⟩ := HOW.out _ _ ho1; clear ho1)
      have ho3 := own_le (own_set ho2 HA.out kk (y ^^^ x)) b1.size
      rw [BitVec.toNat_xor] at ho3
      have b3 : Below w.heap.size w (w1.setCell ⟨g1, kk, none⟩ (.int .u8 ((y.toNat ^^^ x.toNat : Nat) : Int))) := (b1.trans (hb1.mono b1.size)).setCell (p := ⟨g1, kk, none⟩) (by have := b1.size; show _ ≤ g1; omega) _
      generalize w1.setCell ⟨g1, kk, none⟩ (.int .u8 ((y.toNat ^^^ x.toNat : Nat) : Int)) = w3 at ho3 b3 ⊢
      generalize a.set kk (y ^^^ x) = cc at ho3
      clear cl1 fz1 ho2 hb1 HOW f1
      have hcl : cc.length = na := (own_isb ho3).1
      have HC : Hid (cc.length = na) := hcl
      have icc : Hid (∀ w', Below w3.heap.size w3 w' → IsB w' (some ⟨g1, 0, none⟩) cc) := fun w' h => (own_IsB ho3).below h (Nat.le_refl _)
      obtain ⟨r2, hr2⟩ : ∃ r2, decide (a = cc) = r2 := ⟨_, rfl⟩
      have HR2 : Hid (decide (a = cc) = r2) := hr2
      have HR4 : Hid (decide (a = cc ++ [0#8]) = false) := by
        show _ = _
        rw [decide_eq_false_iff_not]
        intro h
        have := congrArg List.length h
        rw [List.length_append, HC.out, HA.out] at this
        simp at this
      have HC0 : Hid ((cc ++ [0#8]).length = na + 1) := by show _ = _; rw [List.length_append, HC.out]; rfl
      clear hr2 hcl
      go_wp2_with fail
      refine (equal_b ao bo na nb ca cb a b HA.out HB.out r HR.out _ (IA.out _ b3) (IB.out _ b3) (by omega) (by omega)).mono ?_
      rintro e w4 ⟨rfl, hb4⟩
      have b4 := b3.trans (hb4.mono b3.size)
      have s4 : Below w3.heap.size w3 w4 := hb4
      go_wp2_with fail
      refine (refEqual_b ao bo na nb ca cb a b HA.out HB.out r HR.out _ (IA.out _ b4) (IB.out _ b4) (by omega) (by omega)).mono ?_
      rintro e w5 ⟨rfl, hb5⟩
      have b5 := b4.trans (hb5.mono b4.size)
      have s5 := s4.trans (hb5.mono s4.size)
      clear hb4 b4 s4
      go_wp2_with fail
      refine (equal_b bo ao nb na cb ca b a HB.out HA.out r HR'.out _ (IB.out _ b5) (IA.out _ b5) (by omega) (by omega)).mono ?_
      rintro e w6 ⟨rfl, hb6⟩
      have b6 := b5.trans (hb6.mono b5.size)
      have s6 := s5.trans (hb6.mono s5.size)
      clear hb5 b5 s5
      go_wp2_with fail
      refine (refEqual_b ao bo na nb ca cb a b HA.out HB.out r HR.out _ (IA.out _ b6) (IB.out _ b6) (by omega) (by omega)).mono ?_
      rintro e w7 ⟨rfl, hb7⟩
      have b7 := b6.trans (hb7.mono b6.size)
      have s7 := s6.trans (hb7.mono s6.size)
      clear hb6 b6 s6
      go_wp2_with fail
      refine (equal_b ao (some ⟨g1, 0, none⟩) na na ca c1 a cc HA.out HC.out r2 HR2.out _ (IA.out _ b7) (icc.out _ s7) (by omega) (by omega)).mono ?_
      rintro e w8 ⟨rfl, hb8⟩
      have b8 := b7.trans (hb8.mono b7.size)
      have s8 := s7.trans (hb8.mono s7.size)
      clear hb7 b7 s7
      go_wp2_with fail
      refine (refEqual_b ao (some ⟨g1, 0, none⟩) na na ca c1 a cc HA.out HC.out r2 HR2.out _ (IA.out _ b8) (icc.out _ s8) (by omega) (by omega)).mono ?_
      rintro e w9 ⟨rfl, hb9⟩
      have b9 := b8.trans (hb9.mono b8.size)
      have s9 := s8.trans (hb9.mono s8.size)
      clear hb8 b8 s8
      go_wp2_with fail
      refine (equal_b ao ao na na ca ca a a HA.out HA.out true (by simp) _ (IA.out _ b9) (IA.out _ b9) (by omega) (by omega)).mono ?_
      rintro e w10 ⟨rfl, hb10⟩
      have b10 := b9.trans (hb10.mono b9.size)
      have s10 := s9.trans (hb10.mono s9.size)
      have own10 : Own w.heap.size w10 (.slice (some ⟨g1, 0, none⟩) na c1) cc := (ho3.keep s10)
      clear hb9 b9 s9 hb10 ho3 icc
      have r10 : Row (w10.alloc (.cells #[.int .u8 0] 5)) w10.heap.size 5 ([0#8].map B8) := Row.at _ _ _ _ _ rfl rfl
      have a10 : Below w10.heap.size w10 (w10.alloc (.cells #[.int .u8 0] 5)) := (Below.refl _ _).alloc (Nat.le_refl _) _
      go_wp2_with (at_builtin; refine wpList_append_more_g (by rfl) (.tmp 71) (.tmp 72) rfl w.heap.size w (some ⟨g1, 0, none⟩) na c1 cc rfl HC.out (own10.keep a10) (b10.alloc b10.size _) _ 1 1 [0#8] rfl rfl (row_isb r10) (fun h => by cases h) (by omega) ?_; intro qo11 c11 w11 ho11 hb11)
      refine (equal_b ao _ na (na + 1) ca c11 a (cc ++ [0#8]) HA.out HC0.out false HR4.out _ (IA.out _ hb11) (own_IsB ho11) (by omega) (by omega)).mono ?_
      rintro e w12 ⟨rfl, hb12⟩
      have b12 := hb11.trans (hb12.mono hb11.size)
      go_wp2_with fail
      refine (fixed_any _).mono ?_
      rintro e w13 ⟨rfl, hb13⟩
      go_wp2
      go_ret
      exact ⟨rfl, b12.trans (hb13.mono b12.size)⟩
    · have e2 : decide (pl.tmod na < 0) = true := by simpa using hr0
      go_wp2_with (at_builtin; refine wpList_append_IsB rfl (.const _) (.tmp 17) rfl ao ca na a HA.out.symm rfl rfl (IA.out _ b1) hnk (by have := HA.out; omega) ?_; intro v1 w1 ho1 hb1; obtain ⟨g1, c1, rfl, hgN, ho2, cl1, fz1⟩ := HOW.out _ _ ho1; clear ho1)
      have ho3 := own_le (own_set ho2 HA.out kk (y ^^^ x)) b1.size
      rw [BitVec.toNat_xor] at ho3
      have b3 : Below w.heap.size w (w1.setCell ⟨g1, kk, none⟩ (.int .u8 ((y.toNat ^^^ x.toNat : Nat) : Int))) := (b1.trans (hb1.mono b1.size)).setCell (p := ⟨g1, kk, none⟩) (by have := b1.size; show _ ≤ g1; omega) _
      generalize w1.setCell ⟨g1, kk, none⟩ (.int .u8 ((y.toNat ^^^ x.toNat : Nat) : Int)) = w3 at ho3 b3 ⊢
      generalize a.set kk (y ^^^ x) = cc at ho3
      clear cl1 fz1 ho2 hb1 HOW f1
      have hcl : cc.length = na := (own_isb ho3).1
      have HC : Hid (cc.length = na) := hcl
      have icc : Hid (∀ w', Below w3.heap.size w3 w' → IsB w' (some ⟨g1, 0, none⟩) cc) := fun w' h => (own_IsB ho3).below h (Nat.le_refl _)
      obtain ⟨r2, hr2⟩ : ∃ r2, decide (a = cc) = r2 := ⟨_, rfl⟩
      have HR2 : Hid (decide (a = cc) = r2) := hr2
      have HR4 : Hid (decide (a = cc ++ [0#8]) = false) := by
        show _ = _
        rw [decide_eq_false_iff_not]
        intro h
        have := congrArg List.length h
        rw [List.length_append, HC.out, HA.out] at this
        simp at this
      have HC0 : Hid ((cc ++ [0#8]).length = na + 1) := by show _ = _; rw [List.length_append, HC.out]; rfl
      clear hr2 hcl
      go_wp2_with fail
      refine (equal_b ao bo na nb ca cb a b HA.out HB.out r HR.out _ (IA.out _ b3) (IB.out _ b3) (by omega) (by omega)).mono ?_
      rintro e w4 ⟨rfl, hb4⟩
      have b4 := b3.trans (hb4.mono b3.size)
      have s4 : Below w3.heap.size w3 w4 := hb4
      go_wp2_with fail
      refine (refEqual_b ao bo na nb ca cb a b HA.out HB.out r HR.out _ (IA.out _ b4) (IB.out _ b4) (by omega) (by omega)).mono ?_
      rintro e w5 ⟨rfl, hb5⟩
      have b5 := b4.trans (hb5.mono b4.size)
      have s5 := s4.trans (hb5.mono s4.size)
      clear hb4 b4 s4
      go_wp2_with fail
      refine (equal_b bo ao nb na cb ca b a HB.out HA.out r HR'.out _ (IB.out _ b5) (IA.out _ b5) (by omega) (by omega)).mono ?_
      rintro e w6 ⟨rfl, hb6⟩
      have b6 := b5.trans (hb6.mono b5.size)
      have s6 := s5.trans (hb6.mono s5.size)
      clear hb5 b5 s5
      go_wp2_with fail
      refine (refEqual_b ao bo na nb ca cb a b HA.out HB.out r HR.out _ (IA.out _ b6) (IB.out _ b6) (by omega) (by omega)).mono ?_
      rintro e w7 ⟨rfl, hb7⟩
      have b7 := b6.trans (hb7.mono b6.size)
      have s7 := s6.trans (hb7.mono s6.size)
      clear hb6 b6 s6
      go_wp2_with fail
      refine (equal_b ao (some ⟨g1, 0, none⟩) na na ca c1 a cc HA.out HC.out r2 HR2.out _ (IA.out _ b7) (icc.out _ s7) (by omega) (by omega)).mono ?_
      rintro e w8 ⟨rfl, hb8⟩
      have b8 := b7.trans (hb8.mono b7.size)
      have s8 := s7.trans (hb8.mono s7.size)
      clear hb7 b7 s7
      go_wp2_with fail
      refine (refEqual_b ao (some ⟨g1, 0, none⟩) na na ca c1 a cc HA.out HC.out r2 HR2.out _ (IA.out _ b8) (icc.out _ s8) (by omega) (by omega)).mono ?_
      rintro e w9 ⟨rfl, hb9⟩
      have b9 := b8.trans (hb9.mono b8.size)
      have s9 := s8.trans (hb9.mono s8.size)
      clear hb8 b8 s8
      go_wp2_with fail
      refine (equal_b ao ao na na ca ca a a HA.out HA.out true (by simp) _ (IA.out _ b9) (IA.out _ b9) (by omega) (by omega)).mono ?_
      rintro e w10 ⟨rfl, hb10⟩
      have b10 := b9.trans (hb10.mono b9.size)
      have s10 := s9.trans (hb10.mono s9.size)
      have own10 : Own w.heap.size w10 (.slice (some ⟨g1, 0, none⟩) na c1) cc := (ho3.keep s10)
      clear hb9 b9 s9 hb10 ho3 icc
      have r10 : Row (w10.alloc (.cells #[.int .u8 0] 5)) w10.heap.size 5 ([0#8].map B8) := Row.at _ _ _ _ _ rfl rfl
      have a10 : Below w10.heap.size w10 (w10.alloc (.cells #[.int .u8 0] 5)) := (Below.refl _ _).alloc (Nat.le_refl _) _
      go_wp2_with (at_builtin; refine wpList_append_more_g (by rfl) (.tmp 71) (.tmp 72) rfl w.heap.size w (some ⟨g1, 0, none⟩) na c1 cc rfl HC.out (own10.keep a10) (b10.alloc b10.size _) _ 1 1 [0#8] rfl rfl (row_isb r10) (fun h => by cases h) (by omega) ?_; intro qo11 c11 w11 ho11 hb11)
      refine (equal_b ao _ na (na + 1) ca c11 a (cc ++ [0#8]) HA.out HC0.out false HR4.out _ (IA.out _ hb11) (own_IsB ho11) (by omega) (by omega)).mono ?_
      rintro e w12 ⟨rfl, hb12⟩
      have b12 := hb11.trans (hb12.mono hb11.size)
      go_wp2_with fail
      refine (fixed_any _).mono ?_
      rintro e w13 ⟨rfl, hb13⟩
      go_wp2
      go_ret
      exact ⟨rfl, b12.trans (hb13.mono b12.size)⟩
  · have g0 : ¬ (0 : Int) < (na : Int) := by omega
    have HOW : Hid (∀ w1 v1, Own W.heap.size w1 v1 a → ∃ ao1 c1, v1 = .slice ao1 na c1 ∧ Own W.heap.size w1 (.slice ao1 na c1) a) := by
      intro w1 v1 ho
      obtain ⟨ao1, c1, rfl⟩ := own_form ho
      rw [HA.out] at ho ⊢
      exact ⟨ao1, c1, rfl, ho⟩
    go_wp2_with (at_builtin; refine wpList_append_IsB rfl (.const _) (.tmp 17) rfl ao ca na a HA.out.symm rfl rfl (IA.out _ b1) hnk (by have := HA.out; omega) ?_; intro v1 w1 ho1 hb1; obtain ⟨ao1, c1, rfl, ho2⟩ := HOW.out _ _ ho1; clear ho1)
    have ho3 := own_le ho2 b1.size
    have b3 : Below w.heap.size w w1 := b1.trans (hb1.mono b1.size)
    obtain ⟨cc, hcc⟩ : ∃ cc, cc = a := ⟨_, rfl⟩
    rw [← hcc] at ho3
    clear ho2 hb1 HOW hcc
    have hcl : cc.length = na := (own_isb ho3).1
    have HC : Hid (cc.length = na) := hcl
    have icc : Hid (∀ w', Below w1.heap.size w1 w' → IsB w' ao1 cc) := fun w' h => (own_IsB ho3).below h (Nat.le_refl _)
    obtain ⟨r2, hr2⟩ : ∃ r2, decide (a = cc) = r2 := ⟨_, rfl⟩
    have HR2 : Hid (decide (a = cc) = r2) := hr2
    have HR4 : Hid (decide (a = cc ++ [0#8]) = false) := by
      show _ = _
      rw [decide_eq_false_iff_not]
      intro h
      have := congrArg List.length h
      rw [List.length_append, HC.out, HA.out] at this
      simp at this
    have HC0 : Hid ((cc ++ [0#8]).length = na + 1) := by show _ = _; rw [List.length_append, HC.out]; rfl
    clear hr2 hcl
    go_wp2_with fail
    refine (equal_b ao bo na nb ca cb a b HA.out HB.out r HR.out _ (IA.out _ b3) (IB.out _ b3) (by omega) (by omega)).mono ?_
    rintro e w4 ⟨rfl, hb4⟩
    have b4 := b3.trans (hb4.mono b3.size)
    have s4 : Below w1.heap.size w1 w4 := hb4
    go_wp2_with fail
    refine (refEqual_b ao bo na nb ca cb a b HA.out HB.out r HR.out _ (IA.out _ b4) (IB.out _ b4) (by omega) (by omega)).mono ?_
    rintro e w5 ⟨rfl, hb5⟩
    have b5 := b4.trans (hb5.mono b4.size)
    have s5 := s4.trans (hb5.mono s4.size)
    clear hb4 b4 s4
    go_wp2_with fail
    refine (equal_b bo ao nb na cb ca b a HB.out HA.out r HR'.out _ (IB.out _ b5) (IA.out _ b5) (by omega) (by omega)).mono ?_
    rintro e w6 ⟨rfl, hb6⟩
    have b6 := b5.trans (hb6.mono b5.size)
    have s6 := s5.trans (hb6.mono s5.size)
    clear hb5 b5 s5
    go_wp2_with fail
    refine (refEqual_b ao bo na nb ca cb a b HA.out HB.out r HR.out _ (IA.out _ b6) (IB.out _ b6) (by omega) (by omega)).mono ?_
    rintro e w7 ⟨rfl, hb7⟩
    have b7 := b6.trans (hb7.mono b6.size)
    have s7 := s6.trans (hb7.mono s6.size)
    clear hb6 b6 s6
    go_wp2_with fail
    refine (equal_b ao ao1 na na ca c1 a cc HA.out HC.out r2 HR2.out _ (IA.out _ b7) (icc.out _ s7) (by omega) (by omega)).mono ?_
    rintro e w8 ⟨rfl, hb8⟩
    have b8 := b7.trans (hb8.mono b7.size)
    have s8 := s7.trans (hb8.mono s7.size)
    clear hb7 b7 s7
    go_wp2_with fail
    refine (refEqual_b ao ao1 na na ca c1 a cc HA.out HC.out r2 HR2.out _ (IA.out _ b8) (icc.out _ s8) (by omega) (by omega)).mono ?_
    rintro e w9 ⟨rfl, hb9⟩
    have b9 := b8.trans (hb9.mono b8.size)
    have s9 := s8.trans (hb9.mono s8.size)
    clear hb8 b8 s8
    go_wp2_with fail
    refine (equal_b ao ao na na ca ca a a HA.out HA.out true (by simp) _ (IA.out _ b9) (IA.out _ b9) (by omega) (by omega)).mono ?_
    rintro e w10 ⟨rfl, hb10⟩
    have b10 := b9.trans (hb10.mono b9.size)
    have s10 := s9.trans (hb10.mono s9.size)
    have own10 : Own w.heap.size w10 (.slice ao1 na c1) cc := (ho3.keep s10)
    clear hb9 b9 s9 hb10 ho3 icc
    have r10 : Row (w10.alloc (.cells #[.int .u8 0] 5)) w10.heap.size 5 ([0#8].map B8) := Row.at _ _ _ _ _ rfl rfl
    have a10 : Below w10.heap.size w10 (w10.alloc (.cells #[.int .u8 0] 5)) := (Below.refl _ _).alloc (Nat.le_refl _) _
    go_wp2_with (at_builtin; refine wpList_append_more_g (by rfl) (.tmp 71) (.tmp 72) rfl w.heap.size w ao1 na c1 cc rfl HC.out (own10.keep a10) (b10.alloc b10.size _) _ 1 1 [0#8] rfl rfl (row_isb r10) (fun h => by cases h) (by omega) ?_; intro qo11 c11 w11 ho11 hb11)
    refine (equal_b ao _ na (na + 1) ca c11 a (cc ++ [0#8]) HA.out HC0.out false HR4.out _ (IA.out _ hb11) (own_IsB ho11) (by omega) (by omega)).mono ?_
    rintro e w12 ⟨rfl, hb12⟩
    have b12 := hb11.trans (hb12.mono hb11.size)
    go_wp2_with fail
    refine (fixed_any _).mono ?_
    rintro e w13 ⟨rfl, hb13⟩
    go_wp2
    go_ret
    exact ⟨rfl, b12.trans (hb13.mono b12.size)⟩
end Go.Proofs.Ytikakngpbahhgaa
