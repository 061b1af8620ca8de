
import Derived.Test.YtngfdofjflmhhaaF7Fix
import Derived.Test.YtngfdofjflmhhaaF7RMath
import Derived.Test.YtngfdofjflmhhaaL4Open2
import Derived.Deep.DeepCutAuto
/-! FuseRises: holds. -/
namespace Go.Proofs.Ytngfdofjflmhhaa
open Go.RowKit
set_option linter.unusedVariables false

/-- A chip of the code, and what was there ahead of it. -/
structure Z7 (W0 : World) (G : RF) (s : RS) (W : World) : Prop where
  bel : Below W0.heap.size W0 W
  c : ∃ S, CAt W G s S
  lo : ∀ B ∈ G.blocks, W0.heap.size ≤ B
theorem Z7.below {W0 W W' : World} {G : RF} {s : RS} (h : Z7 W0 G s W) (hb : Below W.heap.size W W') : Z7 W0 G s W' := by
  obtain ⟨S, c⟩ := h.c
  exact ⟨h.bel.trans (hb.mono h.bel.size), ⟨S, c.below hb (Nat.le_refl _)⟩, h.lo⟩
theorem Z7.to {W0 W W' : World} {G : RF} {s s' : RS} (h : Z7 W0 G s W) (hc : ∃ S, CAt W' G s' S) (kl : KeptL G.blocks W W') : Z7 W0 G s' W' :=
  ⟨below_kept h.bel kl h.lo h.bel.size, hc, h.lo⟩
theorem Z7.but {W0 W W' : World} {G : RF} {s s' : RS} (h : Z7 W0 G s W) (hc : ∃ S, CAt W' G s' S) (sb : SameBut G.g W W') : Z7 W0 G s' W' :=
  h.to hc ((KeptL.refl _ _).but sb (.inl (by simp [RF.blocks])))

theorem cut_good {s : RS} (h : s.Good) (a : Int) (ha : a < 9223372036854775808) (m : List By) (hm : m.length ≤ 1) : (cutS s a m).Good :=
  ⟨h.n0, by show max (-1) a < _; omega, h.ce, h.e0, by show m.length ≤ _; omega, h.pos⟩
theorem up_good {s : RS} (h : s.Good) : (upS s).Good := ⟨h.n0, h.wt, h.ce, h.e0, h.ml, h.pos⟩
theorem cut_fu {s : RS} (h : s.Fu) (a : Int) (m : List By) : (cutS s a m).Fu := ⟨h.s1, h.s2, h.f1, h.f2, h.k1, h.k2, h.bl⟩
theorem up_fu {s : RS} (h : s.Fu) : (upS s).Fu := ⟨h.s1, h.s2, h.f1, h.f2, h.k1, h.k2, h.bl⟩

section
variable {W0 W : World} {G : RF} {s : RS}
theorem Z7.count (h : Z7 W0 G s W) (hf : s.Fu) (slot : Int) : Calls Try.prog 13 #[.pointer (some ⟨G.g, 0, none⟩), .int .i64 slot] W fun e w' => e = .returned (.tuple #[.int .i64 (s.count slot), .int .i64 (s.countE slot)]) ∧ Z7 W0 G s w' := by
  obtain ⟨S, c⟩ := h.c
  exact (fucount_any G s S slot W c hf).mono fun e w' k => ⟨k.1, h.below k.2⟩
theorem Z7.raise (h : Z7 W0 G s W) (hf : s.Fu) (hg : s.Good) (hn : s.n < 4611686018427387000) (slot n : Int) : Calls Try.prog 15 #[.pointer (some ⟨G.g, 0, none⟩), .int .i64 slot, .int .i64 n] W fun e w' => e = .returned (.int .i64 (s.raise slot n).2) ∧ Z7 W0 G (s.raise slot n).1 w' := by
  obtain ⟨S, c⟩ := h.c
  exact (furaise_any G s S slot n W c hf hg hn).mono fun e w' k => ⟨k.1, h.to k.2.1 k.2.2⟩
theorem Z7.restore (h : Z7 W0 G s W) : Calls Try.prog 16 #[.pointer (some ⟨G.g, 0, none⟩)] W fun e w' => e = .returned (.tuple #[]) ∧ Z7 W0 G (upS s) w' := by
  obtain ⟨S, c⟩ := h.c
  exact (crestore_any G s S W c).mono fun e w' k => ⟨k.1, h.but ⟨S, k.2.1⟩ k.2.2⟩
theorem Z7.acts (h : Z7 W0 G s W) : Calls Try.prog 11 #[.pointer (some ⟨G.g, 0, none⟩)] W fun e w' => e = .returned (.int .i64 s.n) ∧ w' = W := by
  obtain ⟨S, c⟩ := h.c
  exact cacts_any G s S W c
theorem Z7.uncut (h : Z7 W0 G s W) : Calls Try.prog 14 #[.pointer (some ⟨G.g, 0, none⟩), .int .i64 (-1), .slice none 0 0] W fun e w' => e = .returned (.tuple #[]) ∧ Z7 W0 G (cutS s (-1) []) w' := by
  obtain ⟨S, c⟩ := h.c
  exact (ccut_any G s S (-1) none 0 0 [] rfl W c (.inl rfl) (.inl rfl) (by omega) (by omega) (by omega)).mono fun e w' k => ⟨k.1, h.but k.2.1 k.2.2⟩
theorem Z7.cut (h : Z7 W0 G s W) (a : Int) (ha : a < 9223372036854775808) (x : By) : Calls Try.prog 14 #[.pointer (some ⟨G.g, 0, none⟩), .int .i64 a, .slice (some ⟨W.heap.size, 0, none⟩) 1 1] (W.alloc (.cells #[.int .u8 (x.toNat : Int)] 5)) fun e w' => e = .returned (.tuple #[]) ∧ Z7 W0 G (cutS s a [x]) w' := by
  have ba : Below W.heap.size W (W.alloc (.cells #[.int .u8 (x.toNat : Int)] 5)) := (Below.refl _ _).alloc (Nat.le_refl _) _
  have h2 := h.below ba
  obtain ⟨S, c⟩ := h2.c
  have hl : G.g < W.heap.size := by
    obtain ⟨S', c'⟩ := h.c
    exact c'.blt _ (by simp [RF.blocks])
  have hx := (Row.at _ _ [B8 x] _ _ rfl rfl : Row (W.alloc (.cells #[.int .u8 (x.toNat : Int)] 5)) W.heap.size 5 [B8 x]).cell 0 _ rfl
  refine (ccut_any G s S a (some ⟨W.heap.size, 0, none⟩) 1 1 [x] rfl _ c (.inr ⟨W.heap.size, 0, rfl, fun j v hj => ?_⟩) (.inr fun B off e => ?_) (by omega) (by omega) ha).mono fun e w' k => ⟨k.1, h2.but k.2.1 k.2.2⟩
  · cases j with
    | zero => injection hj with hj; subst hj; exact hx
    | succ j => simp at hj
  · injection e with e; injection e with e; omega
theorem Z7.state (h : Z7 W0 G s W) : Calls Try.prog 10 #[.pointer (some ⟨G.g, 0, none⟩)] W fun e w' => ∃ p e' b ps, e = .returned (.agg (ownVals s.st p e' b).toArray) ∧ OwnX w' W.heap.size s.st p e' b ps ∧ Z7 W0 G s w' := by
  obtain ⟨S, c⟩ := h.c
  exact (cstate_any G s S W c).mono fun e w' ⟨p, e', b, ps, h1, h2, h3⟩ => ⟨p, e', b, ps, h1, h2, h.below h3⟩
end

set_option maxHeartbeats 4000000 in
set_option maxRecDepth 100000 in
theorem rises7_any (c : Cfg) (v : SV) (t : St) (w : World) (hin : StIn w v t) (slot n at_ : Int) (x : By) (hat : at_ < 9223372036854775808) (hn63 : -9223372036854775808 ≤ n ∧ n < 9223372036854775808) :
    Calls Try.prog 4 #[.agg c.vals.toArray, .agg (v.vals t).toArray, .int .i64 slot, .int .i64 n, .int .i64 at_, .int .u8 (x.toNat : Int)] w fun e w' => e = .returned (.bool true) ∧ Below w.heap.size w w' := by
  have z1 := hin.l1
  have z2 := hin.l2
  have z3 := hin.l3
  have z4 := hin.lp
  simp only [reachBytes] at z1 z2 z3 z4
  have hv := hin.view
  have sz : t.pages.length ≤ 140737488355328 ∧ t.erases.length ≤ 140737488355328 ∧ t.blown.length ≤ 140737488355328 ∧ ∀ p ∈ t.pages, p.length ≤ 140737488355328 := ⟨by omega, by omega, by omega, fun p hp => by have := z4 p hp; omega⟩
  have HFX : Hid (∀ W, Calls Try.prog 5 #[] W fun e w' => e = .returned (.bool true) ∧ Below W.heap.size W w') := fun W => l7fixed_any W
  have HCL : Hid (∀ W, Below w.heap.size w W → Calls Try.prog 6 #[.agg c.vals.toArray, .agg #[.slice v.po t.pages.length v.pc, .slice v.eo t.erases.length v.ec, .slice v.bo t.blown.length v.bc]] W (CLayP (badK c) (c.may = 0 ∧ Fit c t) (layS c t) W)) := fun W hW =>
    (clay_any c v t W (hv.below hW (Nat.le_refl _)) sz.1 sz.2.1 sz.2.2.1 sz.2.2.2).mono fun e w' h => clayp h
  have HK : Hid (¬ (c.may = 0 ∧ Fit c t) → badK c ≠ 0) := fun h e => by
    unfold badK at e
    split at e
    · omega
    · rename_i h2; exact h2 e
  have HOKG : Hid ((c.may = 0 ∧ Fit c t) → (layS c t).Good ∧ (layS c t).Fu) := fun h => ⟨lay_good h.1 h.2, lay_fu h.1 h.2⟩
  have HS0 : Hid ((layS c t).n = 0 ∧ (layS c t).gone = false ∧ (layS c t).c.slots = c.slots ∧ (layS c t).c.fuses = c.fuses ∧ (layS c t).blown = t.blown) := ⟨rfl, rfl, rfl, rfl, rfl⟩
  have HSB : Hid (∀ W, Below w.heap.size w W → ∀ p, p < t.blown.length → ∃ B o, v.bo = some ⟨B, o, none⟩ ∧ W.cell? ⟨B, o + p, none⟩ = some (.bool (t.blown.getD p false))) := fun W hW p hp => by
    obtain ⟨B, o, h1, h2⟩ := (hv.below hW (Nat.le_refl _)).bl.cell p (Value.bool (t.blown.getD p false)) (by rw [List.getElem?_map, List.getD_eq_getElem?_getD, List.getElem?_eq_getElem hp]; rfl)
    exact ⟨B, o, h1, h2⟩
  clear hin hv sz z1 z2 z4
  generalize badK c = K at *
  generalize layS c t = s0 at *
  obtain ⟨OK, hOK⟩ : ∃ OK : Prop, OK = (c.may = 0 ∧ Fit c t) := ⟨_, rfl⟩
  rw [← hOK] at HCL HK HOKG
  clear hOK
  obtain ⟨cells, slots, fuses, step, keys, erases, area⟩ := c
  simp only [Cfg.vals, SV.vals] at *
  obtain ⟨W0, hW0⟩ : ∃ W0, W0 = (w.alloc (.cells #[.int .i64 cells, .int .i64 slots, .int .i64 fuses, .int .i64 step, .int .i64 keys, .int .i64 erases, .int .i64 area] 23)).alloc (.cells #[.slice v.po t.pages.length v.pc, .slice v.eo t.erases.length v.ec, .slice v.bo t.blown.length v.bc] 28) := ⟨_, rfl⟩
  have R0 : Hid (Row W0 w.heap.size 23 [.int .i64 cells, .int .i64 slots, .int .i64 fuses, .int .i64 step, .int .i64 keys, .int .i64 erases, .int .i64 area] ∧ Row W0 (w.heap.size + 1) 28 [.slice v.po t.pages.length v.pc, .slice v.eo t.erases.length v.ec, .slice v.bo t.blown.length v.bc] ∧ Below w.heap.size w W0 ∧ W0.heap.size = w.heap.size + 2) := by
    rw [hW0]
    exact ⟨(Row.at _ _ _ _ _ rfl rfl : Row (w.alloc _) _ _ _).alloc _, Row.at _ _ _ _ _ (by simp) rfl, ((Below.refl _ _).alloc (Nat.le_refl _) _).alloc (by simp) _, by simp⟩
  generalize t.pages.length = PL at *
  generalize t.erases.length = EL at *
  obtain ⟨BL, hBL⟩ : ∃ BL, BL = t.blown.length := ⟨_, rfl⟩
  rw [← hBL] at HCL HSB R0 hW0 ⊢
  have HBLE : Hid (BL = t.blown.length) := hBL
  clear hBL
  have hzv : ∀ w : World, (zeroValue 28).run Try.prog w = .ok (.agg #[.slice none 0 0, .slice none 0 0, .slice none 0 0]) w := fun _ => by kernel_rfl
  go_enter Try.func4, Try.ntmps4
  go_wp2_with fail
  rw [← hW0]
  clear hW0
  refine (HFX.out _).mono ?_
  rintro e w1 ⟨rfl, hb1⟩
  have c1 : Row w1 w.heap.size 23 _ := (hb1.block _ R0.out.1.lt).trans R0.out.1
  have s1 : Row w1 (w.heap.size + 1) 28 _ := (hb1.block _ R0.out.2.1.lt).trans R0.out.2.1
  have b1 : Below w.heap.size w w1 := R0.out.2.2.1.trans (hb1.mono (by have := R0.out.2.2.2; omega))
  have a0 := c1.cell 0 _ rfl
  have a1 := c1.cell 1 _ rfl
  have a2 := c1.cell 2 _ rfl
  have a3 := c1.cell 3 _ rfl
  have a4 := c1.cell 4 _ rfl
  have a5 := c1.cell 5 _ rfl
  have a6 := c1.cell 6 _ rfl
  have d0 := s1.cell 0 _ rfl
  have d1 := s1.cell 1 _ rfl
  have d2 := s1.cell 2 _ rfl
  go_wp2_with fail
  refine (HCL.out _ b1).mono ?_
  intro e w2 hp1
  obtain ⟨hb2, hp1⟩ := hp1
  have b2 : Below w.heap.size w w2 := b1.trans (hb2.mono b1.size)
  have hbz : Below W0.heap.size W0 w2 := hb1.trans (hb2.mono hb1.size)
  have hz1 := hb1.size
  clear a0 a1 a2 a3 a4 a5 a6 d0 d1 d2 c1 s1 b1 hb2 HCL hb1
  rcases hp1 with ⟨hno, rfl⟩ | ⟨hok, G, rfl, hG, hGb⟩
  · have hk0 := HK.out hno
    have hk1 : (K != 0) = true := by rw [bne_iff_ne]; exact hk0
    clear hbz
    go_wp2
    go_ret
    exact ⟨rfl, b2⟩
  · obtain ⟨hgd, hfu⟩ := HOKG.out hok
    obtain ⟨q1, q2, q3, q4, q5⟩ := HS0.out
    have hz : Z7 W0 G s0 w2 := ⟨hbz, ⟨_, hG⟩, fun B hB => by have := hGb B hB; omega⟩
    have HBX : Hid (∀ W s, Z7 W0 G s W → Row W w.heap.size 23 [.int .i64 cells, .int .i64 slots, .int .i64 fuses, .int .i64 step, .int .i64 keys, .int .i64 erases, .int .i64 area] ∧ Row W (w.heap.size + 1) 28 [.slice v.po PL v.pc, .slice v.eo EL v.ec, .slice v.bo BL v.bc] ∧ Below w.heap.size w W) := fun W s k =>
      ⟨(k.bel.block _ R0.out.1.lt).trans R0.out.1, (k.bel.block _ R0.out.2.1.lt).trans R0.out.2.1, R0.out.2.2.1.trans (k.bel.mono (by have := R0.out.2.2.2; omega))⟩
    clear hbz hG hGb b2 HK HOKG R0
    go_wp2_with fail
    refine (hz.count hfu slot).mono ?_
    rintro e w3 ⟨rfl, hz⟩
    have a1 := (HBX.out _ _ hz).1.cell 1 _ rfl
    by_cases hsl : 0 ≤ slot ∧ slot < slots
    · obtain ⟨hs0, hs1⟩ := hsl
      have hE0 : s0.countE slot = 0 := ask_of q2 hs0 (by rw [q3]; exact hs1)
      have y1 : ¬ slot < 0 := by omega
      have y2 : ¬ slot ≥ slots := by omega
      have y2' : ¬ slots ≤ slot := by omega
      have HCT : Hid (Calls Try.prog 14 #[.pointer (some ⟨G.g, 0, none⟩), .int .i64 at_, .slice (some ⟨w3.heap.size, 0, none⟩) 1 1] (w3.alloc (.cells #[.int .u8 (x.toNat : Int)] 5)) fun e w' => e = .returned (.tuple #[]) ∧ Z7 W0 G (cutS s0 at_ [x]) w') := hz.cut at_ hat x
      rw [hE0]
      have hgd1 : (cutS s0 at_ [x]).Good := cut_good hgd at_ hat [x] (by simp)
      have hfu1 : (cutS s0 at_ [x]).Fu := cut_fu hfu at_ [x]
      have hn1' : (cutS s0 at_ [x]).n = 0 := q1
      have HA : Hid (∀ W, Z7 W0 G (cutS s0 at_ [x]) W → Calls Try.prog 15 #[.pointer (some ⟨G.g, 0, none⟩), .int .i64 slot, .int .i64 n] W fun e w' => e = .returned (.int .i64 ((cutS s0 at_ [x]).raise slot n).2) ∧ Z7 W0 G ((cutS s0 at_ [x]).raise slot n).1 w') := fun W hW => hW.raise hfu1 hgd1 (by omega) slot n
      by_cases hnn : 0 ≤ n ∧ n ≤ fuses
      · obtain ⟨hn0, hn1⟩ := hnn
        have hri := rises hfu q2 (at_ := at_) [x] hs0 (by rw [q3]; exact hs1) hn0 (by rw [q4]; exact hn1)
        dsimp only at hri
        obtain ⟨g2, n2⟩ := hgd1.raise hfu1 slot n
        rw [hn1'] at n2
        have f2 := hfu1.raise slot n
        have hc2 : ((cutS s0 at_ [x]).raise slot n).1.c = s0.c := raise_c _ _ _
        generalize hR : (cutS s0 at_ [x]).raise slot n = R at *
        obtain ⟨s2, GG⟩ := R
        dsimp only at hri g2 n2 f2 hc2 HA
        have HB : Hid (∀ W, Z7 W0 G s2 W → Calls Try.prog 16 #[.pointer (some ⟨G.g, 0, none⟩)] W fun e w' => e = .returned (.tuple #[]) ∧ Z7 W0 G (upS s2) w') := fun W hW => hW.restore
        have HC : Hid (∀ W, Z7 W0 G (upS s2) W → Calls Try.prog 14 #[.pointer (some ⟨G.g, 0, none⟩), .int .i64 (-1), .slice none 0 0] W fun e w' => e = .returned (.tuple #[]) ∧ Z7 W0 G (cutS (upS s2) (-1) []) w') := fun W hW => hW.uncut
        have g3 : (cutS (upS s2) (-1) []).Good := cut_good (up_good g2) _ (by omega) _ (by simp)
        have n3 : (cutS (upS s2) (-1) []).n ≤ 64 := by show s2.n ≤ 64; omega
        generalize hs3 : cutS (upS s2) (-1) [] = s3 at *
        obtain ⟨hrf, he2, hE3, f3⟩ := hri
        have HD : Hid (∀ W, Z7 W0 G s3 W → Calls Try.prog 13 #[.pointer (some ⟨G.g, 0, none⟩), .int .i64 slot] W fun e w' => e = .returned (.tuple #[.int .i64 (s3.count slot), .int .i64 0]) ∧ Z7 W0 G s3 w') := fun W hW => by
          have := hW.count f3 slot
          rw [hE3] at this
          exact this
        have HE : Hid (∀ W, Z7 W0 G s3 W → Calls Try.prog 15 #[.pointer (some ⟨G.g, 0, none⟩), .int .i64 slot, .int .i64 n] W fun e w' => e = .returned (.int .i64 0) ∧ Z7 W0 G (s3.raise slot n).1 w') := fun W hW => by
          have := hW.raise f3 g3 (by omega) slot n
          rw [he2] at this
          exact this
        have f4 := f3.raise slot n
        generalize hs4 : (s3.raise slot n).1 = s4 at *
        have HF : Hid (∀ W, Z7 W0 G s4 W → Calls Try.prog 13 #[.pointer (some ⟨G.g, 0, none⟩), .int .i64 slot] W fun e w' => e = .returned (.tuple #[.int .i64 (s4.count slot), .int .i64 (s4.countE slot)]) ∧ Z7 W0 G s4 w') := fun W hW => hW.count f4 slot
        have hTL : s4.blown.length = BL := by rw [hrf.len, q5, HBLE.out]
        have HG : Hid (∀ W, Z7 W0 G s4 W → Calls Try.prog 10 #[.pointer (some ⟨G.g, 0, none⟩)] W fun e w' => ∃ P1 P2 E1 E2 b, e = .returned (.agg #[.slice (some ⟨P1, 0, none⟩) P2 P2, .slice (some ⟨E1, 0, none⟩) E2 E2, .slice (some ⟨b, 0, none⟩) BL BL]) ∧ Row w' b 4 (s4.blown.map Value.bool) ∧ Z7 W0 G s4 w') := fun W hW => by
          refine hW.state.mono ?_
          rintro e w' ⟨p, e', b, ps, h1, h2, h3⟩
          refine ⟨p, s4.pages.length, e', s4.erases.length, b, ?_, h2.bl, h3⟩
          rw [h1, ← hTL]; rfl
        have hFZ : s0.c.fuses = fuses := q4
        have HTL : Hid (s4.blown.length = BL) := hTL
        have hup := hrf.up
        have hout := hrf.out
        rw [hFZ, q5] at hout
        rw [q5] at hup
        obtain ⟨w0, w1, hen, hed, _, _, _⟩ := hrf
        have f64 : fuses ≤ 64 := by have := hfu.f2; rw [q4] at this; exact this
        have fpos : 1 ≤ fuses := by have := hfu.f1; rw [q4] at this; exact this
        have s8 : slots ≤ 8 := by have := hfu.s2; rw [q3] at this; exact this
        generalize s4.blown = T at *
        generalize s4.count slot = END at *
        generalize s4.countE slot = E4 at *
        generalize s3.count slot = NOW at *
        generalize s0.count slot = WAS at *
        clear hR hs3 hs4 hE3 he2 f2 f3 f4 g2 g3 n2 n3 hc2 q1 q2 q3 q4 q5 hfu hgd hgd1 hfu1 hn1' hFZ hTL HS0 hE0
        have HUP : Hid (∀ j, t.blown.getD j false = true → T.getD j false = true) := hup
        have HOUT : Hid (∀ j : Nat, ((j : Int) < slot * fuses ∨ (slot + 1) * fuses ≤ (j : Int)) → T.getD j false = t.blown.getD j false) := hout
        have HEN : Hid ((GG = 0 ∧ NOW = max WAS n) ∨ (GG = 8 ∧ 0 ≤ at_ ∧ at_ < n - WAS ∧ WAS ≤ NOW ∧ NOW ≤ n)) := hen
        clear hup hout hen
        have x1 : ¬ n < 0 := by omega
        have x2 : ¬ n > fuses := by omega
        have x2' : ¬ fuses < n := by omega
        go_wp2_with fail
        refine HCT.out.mono ?_
        rintro e w4 ⟨rfl, hz4⟩
        clear HCT hz a1
        go_wp2_with fail
        refine (HA.out _ hz4).mono ?_
        rintro e w5 ⟨rfl, hz5⟩
        have a2 := (HBX.out _ _ hz5).1.cell 2 _ rfl
        clear hz4 HA
        go_wp2_with fail
        refine (HB.out _ hz5).mono ?_
        rintro e w6 ⟨rfl, hz6⟩
        clear hz5 HB a2
        go_wp2_with fail
        refine (HC.out _ hz6).mono ?_
        rintro e w7 ⟨rfl, hz7⟩
        clear hz6 HC
        go_wp2_with fail
        refine (HD.out _ hz7).mono ?_
        rintro e w8 ⟨rfl, hz8⟩
        clear hz7 HD
        go_upto_region 16 with fail
        obtain ⟨MISS, hM⟩ : ∃ M, M = (if WAS < n then n - WAS else 0) := ⟨_, rfl⟩
        rw [← hM]
        have hM0 : 0 ≤ MISS ∧ WAS + MISS = max WAS n := by rw [hM]; split <;> omega
        have hM1 : n - WAS ≤ MISS := by rw [hM]; split <;> omega
        have hM2 : MISS ≤ 64 := by omega
        obtain ⟨MX, hMX⟩ : ∃ MX, MX = max WAS n := ⟨_, rfl⟩
        rw [← hMX] at HEN hed hM0
        have hX1 : WAS ≤ MX := by omega
        have hX2 : n ≤ MX := by omega
        have wM : IntKind.i64.wrap (WAS + MISS) = MX := by rw [hM0.2]; exact i64_in _ (by omega) (by omega)
        have HEND : Hid (END = MX) := hed
        clear hM hed hM0 hMX
        go_cut [151] (fun s151 wx => s151 = .bool false ∧ wx = w8)
        case first =>
          rcases HEN.out with hA | hB
          · obtain ⟨hg0, hnow⟩ := hA
            have k1 : ¬ NOW < WAS := by omega
            have k2 : ¬ NOW > MX := by omega
            have k2' : ¬ MX < NOW := by omega
            have k3 : (NOW != MX) = false := by rw [hnow]; simp
            have k4 : (GG == 0) = true := by rw [hg0]; rfl
            have k5 : (GG != 0) = false := by rw [hg0]; rfl
            clear hnow hg0 HEN
            go_wp2
            go_meet
            case rel => exact ⟨rfl, rfl⟩
          · obtain ⟨hg8, j1, j2, j3, j4⟩ := hB
            have k1 : ¬ NOW < WAS := by omega
            have k2 : ¬ NOW > MX := by omega
            have k2' : ¬ MX < NOW := by omega
            have k4 : (GG == 0) = false := by rw [hg8]; rfl
            have k5 : (GG != 0) = true := by rw [hg8]; rfl
            have k6 : (GG != 8) = false := by rw [hg8]; rfl
            have k7 : ¬ at_ < 0 := by omega
            have k8 : ¬ at_ ≥ MISS := by omega
            have k8' : ¬ MISS ≤ at_ := by omega
            clear hg8 HEN
            go_wp2
            go_meet
            case rel => exact ⟨rfl, rfl⟩
        case rest =>
          obtain ⟨rfl, rfl⟩ := hcut
          go_wp2_with fail
          refine (HE.out _ hz8).mono ?_
          rintro e w9 ⟨rfl, hz9⟩
          clear hz8 HE
          go_wp2_with fail
          refine (HF.out _ hz9).mono ?_
          rintro e w10 ⟨rfl, hz10⟩
          clear hz9 HF
          go_wp2_with fail
          refine (HG.out _ hz10).mono ?_
          rintro e w11 ⟨P1, P2, E1, E2, b, rfl, hrb, hz11⟩
          clear hz10 HG
          generalize hL1 : w11.heap.size = L1 at *
          go_wp2_with (refine wpList_store_Row rfl 28 _ _ rfl L1 28 0 [nilS, nilS, nilS] [.slice (some ⟨P1, 0, none⟩) P2 P2, .slice (some ⟨E1, 0, none⟩) E2 E2, .slice (some ⟨b, 0, none⟩) BL BL] (Row.at _ _ _ _ _ hL1.symm rfl) (by simp) rfl rfl (by kernel_rfl) (by simp [Value.oneCell']) ?_; intro w12 hr12 hs12; have rl12 : Row w12 L1 28 [.slice (some ⟨P1, 0, none⟩) P2 P2, .slice (some ⟨E1, 0, none⟩) E2 E2, .slice (some ⟨b, 0, none⟩) BL BL] := row_whole hr12 (by simp); have bl12 : Below w11.heap.size w11 w12 := hs12.below ((Below.refl _ _).alloc (Nat.le_refl _) _) (by omega); have hz12 : Z7 W0 G s4 w12 := hz11.below bl12; have rb12 : Row w12 b 4 (T.map Value.bool) := (bl12.block _ hrb.lt).trans hrb; clear hr12 hs12 bl12 hz11 hrb hL1)
          obtain ⟨hbx1, hbx2, hbx3⟩ := HBX.out _ _ hz12
          have g2 := rl12.cell 2 _ rfl
          have a2 := hbx1.cell 2 _ rfl
          have d2 := hbx2.cell 2 _ rfl
          have HRB : Hid (Row w12 b 4 (T.map Value.bool)) := rb12
          have HB3 : Hid (Below w.heap.size w w12) := hbx3
          have hm0 : 0 ≤ slot * fuses := Int.mul_nonneg hs0 (by omega)
          have hm1 : slot * fuses ≤ 7 * 64 := Int.mul_le_mul (by omega) f64 (by omega) (by omega)
          have hm2 : (slot + 1) * fuses = slot * fuses + fuses := by rw [Int.add_mul, Int.one_mul]
          have u1 : IntKind.i64.wrap (slot * fuses) = slot * fuses := i64_in _ (by omega) (by omega)
          have u2 : IntKind.i64.wrap (slot + 1) = slot + 1 := i64_in _ (by omega) (by omega)
          have u3 : IntKind.i64.wrap ((slot + 1) * fuses) = (slot + 1) * fuses := i64_in _ (by omega) (by omega)
          have hBB : BL ≤ 140737488351232 := by rw [HBLE.out]; exact z3
          clear hbx1 hbx2 hbx3 rl12 rb12 hz12 HBX hm2
          go_loopw [26] (fun iv wr => ∃ p : Nat, p ≤ BL ∧ iv = .int .i64 p ∧ Dr w12 wr) (fun iv _ => BL - (intOf iv).toNat)
          case atStart => exact ⟨0, by omega, rfl, Dr.refl _⟩
          case round =>
            obtain ⟨p, hp, rfl, d⟩ := hrel
            have g2' := d.cell g2
            by_cases hlt : p < BL
            · have y0 : (0 : Int) ≤ (p : Int) := by omega
              have y3 : (p : Int) < (BL : Int) := by omega
              have a2' := d.cell a2
              have d2' := d.cell d2
              obtain ⟨SB, so, hbo, cS⟩ := HSB.out wr (Below_dr HB3.out d) p hlt
              rw [hbo] at d2'
              have cT : wr.cell? ⟨b, p, none⟩ = some (.bool (T.getD p false)) := d.cell (HRB.out.cell p _ (by
                have hl : p < T.length := by rw [HTL.out]; exact hlt
                rw [List.getElem?_map, List.getD_eq_getElem?_getD, List.getElem?_eq_getElem hl]; rfl))
              have hu := HUP.out p
              have ho := HOUT.out p
              clear hbo
              generalize t.blown.getD p false = bs at *
              generalize T.getD p false = bt at *
              go_upto_region 24 with fail
              go_cut [213] (fun s213 wx => s213 = .bool false ∧ Dr w12 wx)
              case first =>
                by_cases o1 : (p : Int) < slot * fuses
                · have e1 := ho (.inl o1)
                  subst e1
                  have o1' : decide ((p : Int) < slot * fuses) = true := by simpa using o1
                  clear hu ho
                  cases bt
                  · go_quiet (fail)
                    go_wp2
                    go_meet
                    case rel => exact ⟨rfl, d.drewN _⟩
                  · go_quiet (fail)
                    go_wp2
                    go_meet
                    case rel => exact ⟨rfl, d.drewN _⟩
                · have o1' : decide ((p : Int) < slot * fuses) = false := by simpa using o1
                  by_cases o2 : (slot + 1) * fuses ≤ (p : Int)
                  · have e1 := ho (.inr o2)
                    subst e1
                    have o2' : decide ((p : Int) ≥ (slot + 1) * fuses) = true := by simpa using o2
                    have o2'' : decide ((slot + 1) * fuses ≤ (p : Int)) = true := by simpa using o2
                    clear hu ho
                    cases bt
                    · go_quiet (fail)
                      go_wp2
                      go_meet
                      case rel => exact ⟨rfl, d.drewN _⟩
                    · go_quiet (fail)
                      go_wp2
                      go_meet
                      case rel => exact ⟨rfl, d.drewN _⟩
                  · have o2' : decide ((p : Int) ≥ (slot + 1) * fuses) = false := by simpa using o2
                    have o2'' : decide ((slot + 1) * fuses ≤ (p : Int)) = false := by simpa using o2
                    cases bs
                    · clear hu ho
                      go_quiet (fail)
                      go_wp2
                      go_meet
                      case rel => exact ⟨rfl, d.drewN _⟩
                    · have e1 := hu rfl
                      subst e1
                      clear hu ho
                      go_quiet (fail)
                      go_wp2
                      go_meet
                      case rel => exact ⟨rfl, d.drewN _⟩
              case rest =>
                obtain ⟨rfl, hdx⟩ := hcut
                go_wp2
                exact ⟨⟨p + 1, by omega, by simp, hdx⟩, by simp [intOf]; omega⟩
            · have y3 : ¬ (p : Int) < (BL : Int) := by omega
              have HE0 := HEND.out
              subst HE0
              go_wp2
              go_ret
              exact ⟨rfl, Below_dr HB3.out d⟩
      · have hR : (cutS s0 at_ [x]).raise slot n = (cutS s0 at_ [x], 2) := by
          have he : (cutS s0 at_ [x]).countE slot = 0 := hE0
          have hcf : (cutS s0 at_ [x]).c.fuses = fuses := q4
          unfold RS.raise
          rw [if_pos he, if_pos (by rw [hcf]; omega)]
        have hEA : ((cutS s0 at_ [x]).raise slot n).2 = 2 := by rw [hR]
        have hEB : ((cutS s0 at_ [x]).raise slot n).1 = cutS s0 at_ [x] := by rw [hR]
        rw [hEA, hEB] at HA
        have HAC : Hid (∀ W, Z7 W0 G (cutS s0 at_ [x]) W → Calls Try.prog 11 #[.pointer (some ⟨G.g, 0, none⟩)] W fun e w' => e = .returned (.int .i64 0) ∧ w' = W) := fun W hW => by
          have := hW.acts
          rw [hn1'] at this
          exact this
        clear hR hEA hEB hgd hfu hgd1 hfu1 hn1' q1 q2 q3 q4 q5 HS0 hE0
        generalize s0.count slot = WAS at *
        generalize cutS s0 at_ [x] = sc at *
        go_wp2_with fail
        refine HCT.out.mono ?_
        rintro e w4 ⟨rfl, hz4⟩
        clear HCT hz a1
        go_wp2_with fail
        refine (HA.out _ hz4).mono ?_
        rintro e w5 ⟨rfl, hz5⟩
        have a2 := (HBX.out _ _ hz5).1.cell 2 _ rfl
        have hB := (HBX.out _ _ hz5).2.2
        clear hz4 HA
        by_cases x1 : n < 0
        · go_wp2_with (refine (HAC.out _ hz5).mono ?_; rintro e w6 ⟨rfl, rfl⟩)
          go_ret
          exact ⟨rfl, hB⟩
        · have x2 : n > fuses := by omega
          have x2' : fuses < n := by omega
          go_wp2_with (refine (HAC.out _ hz5).mono ?_; rintro e w6 ⟨rfl, rfl⟩)
          go_ret
          exact ⟨rfl, hB⟩
    · have hE0 : s0.countE slot = 2 := by
        rcases ask_or s0 slot s0.c.slots with ⟨_, h⟩ | ⟨_, ⟨h, _⟩ | ⟨_, h⟩⟩
        · rw [q2] at h; cases h
        · exact h
        · rw [q3] at h; exact absurd h hsl
      rw [hE0]
      have hB := (HBX.out _ _ hz).2.2
      generalize s0.count slot = WAS at *
      clear hz hgd hfu HBX
      by_cases y1 : slot < 0
      · go_wp2
        go_ret
        exact ⟨rfl, hB⟩
      · have y2 : slot ≥ slots := by omega
        have y2' : slots ≤ slot := by omega
        go_wp2
        go_ret
        exact ⟨rfl, hB⟩
end Go.Proofs.Ytngfdofjflmhhaa
