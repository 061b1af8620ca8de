
import Derived.Test.YtngfdofjflmhhaaF7Ref
import Derived.Test.YtngfdofjflmhhaaL4Good
import Derived.StillTailTactics
/-! Layer 7, the document's answer: Raise, Revoke. -/
namespace Go.Proofs.Ytngfdofjflmhhaa
open Go.RowKit

theorem raiseGo_step {o : Nat} {n : Int} {m i : Nat} {k : Int} {s : RS} (h : ¬ n ≤ k) (hb : s.blown.getD (o + i) false = true) : raiseGo o n (m + 1) i k s = raiseGo o n m (i + 1) k s := by
  rw [raiseGo, if_neg h, if_pos hb]
theorem raiseGo_blow {o : Nat} {n : Int} {m i : Nat} {k : Int} {s : RS} (h : ¬ n ≤ k) (hb : s.blown.getD (o + i) false = false) (he : s.blowE ((o + i : Nat) : Int) = 0) : raiseGo o n (m + 1) i k s = raiseGo o n m (i + 1) (k + 1) (s.blow ((o + i : Nat) : Int)) := by
  rw [raiseGo, if_neg h, if_neg (by rw [hb]; decide), if_pos he]
theorem raiseGo_gone {o : Nat} {n : Int} {m i : Nat} {k : Int} {s : RS} (h : ¬ n ≤ k) (hb : s.blown.getD (o + i) false = false) (he : ¬ s.blowE ((o + i : Nat) : Int) = 0) : raiseGo o n (m + 1) i k s = (s.blow ((o + i : Nat) : Int), s.blowE ((o + i : Nat) : Int)) := by
  rw [raiseGo, if_neg h, if_neg (by rw [hb]; decide), if_neg he]
theorem raiseGo_done {o : Nat} {n : Int} {m i : Nat} {k : Int} {s : RS} (h : n ≤ k) : raiseGo o n m i k s = (s, 0) := by
  cases m with
  | zero => rfl
  | succ m => rw [raiseGo, if_pos h]

theorem RS.Fu.count0 {s : RS} (h : s.Fu) (slot : Int) : 0 ≤ s.count slot ∧ s.count slot ≤ 64 := by
  unfold RS.count
  split
  · have := cnt_le s.blown (s.o7 slot) s.c.fuses.toNat
    have := h.f2
    omega
  · omega

/-- What stands between two rounds of Raise: the row's place, where it ends, how much is left. -/
structure Rz7 (o : Nat) (n : Int) (fn : Nat) (R : RS × Int) (s0 s : RS) (i : Nat) (k e : Int) : Prop where
  fu : s.Fu
  good : s.Good
  c : s.c = s0.c
  an : s.n ≤ s0.n + i
  k0 : 0 ≤ k
  k1 : k ≤ 64 + i
  go : e = 0 → raiseGo o n (fn - i) i k s = R
  st : e ≠ 0 → R = (s, e)
theorem Rz7.skip {o : Nat} {n : Int} {fn : Nat} {R : RS × Int} {s0 s : RS} {i : Nat} {k : Int} (h : Rz7 o n fn R s0 s i k 0) (hi : i < fn) (hk : ¬ n ≤ k) (hb : s.blown.getD (o + i) false = true) : Rz7 o n fn R s0 s (i + 1) k 0 := by
  refine ⟨h.fu, h.good, h.c, by have := h.an; omega, h.k0, by have := h.k1; omega, fun _ => ?_, fun h => absurd rfl h⟩
  have := h.go rfl
  rw [show fn - i = (fn - (i + 1)) + 1 by omega, raiseGo_step hk hb] at this
  exact this
theorem Rz7.blow {o : Nat} {n : Int} {fn : Nat} {R : RS × Int} {s0 s : RS} {i : Nat} {k : Int} (h : Rz7 o n fn R s0 s i k 0) (hi : i < fn) (hk : ¬ n ≤ k) (hb : s.blown.getD (o + i) false = false) : Rz7 o n fn R s0 (s.blow ((o + i : Nat) : Int)) (i + 1) (k + 1) (s.blowE ((o + i : Nat) : Int)) := by
  obtain ⟨g1, g2⟩ := h.good.blow ((o + i : Nat) : Int)
  have hg := h.go rfl
  rw [show fn - i = (fn - (i + 1)) + 1 by omega] at hg
  refine ⟨h.fu.blow _, g1, by rw [blow_c]; exact h.c, by have := h.an; omega, by have := h.k0; omega, by have := h.k1; omega, fun he => ?_, fun he => ?_⟩
  · rw [raiseGo_blow hk hb he] at hg; exact hg
  · rw [raiseGo_gone hk hb he] at hg; exact hg.symm
theorem Rz7.fin {o : Nat} {n : Int} {fn : Nat} {R : RS × Int} {s0 s : RS} {i : Nat} {k e : Int} (h : Rz7 o n fn R s0 s i k e) (hd : i = fn ∨ n ≤ k ∨ e ≠ 0) : R = (s, e) := by
  by_cases he : e = 0
  · subst he
    have hg := h.go rfl
    rcases hd with rfl | hd | hd
    · rw [Nat.sub_self] at hg; exact hg.symm
    · rw [raiseGo_done hd] at hg; exact hg.symm
    · exact absurd rfl hd
  · exact h.st he

set_option maxHeartbeats 2000000 in
set_option maxRecDepth 100000 in
theorem q7raise_any (F : RF) (s : RS) (slot n : Int) (w : World) (h : RAt w F s) (hf : s.Fu) (hg : s.Good) (hn : s.n < 4611686018427387000) :
    Calls Try.prog 27 #[.pointer (some ⟨F.g, 0, none⟩), .int .i64 slot, .int .i64 n] w fun e w' => e = .returned (.int .i64 (s.raise slot n).2) ∧ RAt w' F (s.raise slot n).1 ∧ KeptL F.blocks w w' := by
  have HM : Hid (∀ W, W = w → Calls Try.prog 26 #[.pointer (some ⟨F.g, 0, none⟩), .int .i64 slot] W fun e w' => e = .returned (.tuple #[.int .i64 (s.count slot), .int .i64 (s.countE slot)]) ∧ Dr W w') := by
    rintro W rfl
    exact q7count_any F s slot W h hf
  have c2 : w.cell? ⟨F.g, 2, none⟩ = some (.int .i64 s.c.fuses) := h.row.cell 2 _ rfl
  have HRS : Hid (s.raise slot n = if s.countE slot = 0 then (if n < 0 ∨ s.c.fuses < n then (s, 2) else raiseGo (s.o7 slot) n s.c.fuses.toNat 0 (s.count slot) s) else (s, s.countE slot)) := rfl
  generalize s.raise slot n = R at *
  have HR0 : Hid (RAt w F s) := h
  by_cases h0 : s.countE slot = 0
  · obtain ⟨_, i1, i2⟩ := ask_zero h0
    obtain ⟨r1, r2, r3, r4⟩ := hf.row i1 i2
    have hbl := hf.bl
    have hk := hf.k1
    have f1 := hf.f1
    have f2 := hf.f2
    rw [h0] at HM
    by_cases hn1 : n < 0 ∨ s.c.fuses < n
    · have HE : Hid (R = (s, 2)) := by show _ = _; rw [HRS.out, if_pos h0, if_pos hn1]
      clear HRS hbl hf
      generalize s.count slot = CT at *
      by_cases hn2 : n < 0
      · go_enter Try.func27, Try.ntmps27
        go_wp2_with (refine (HM.out _ rfl).mono ?_; rintro e w1 ⟨rfl, d1⟩; have c21 := d1.cell c2)
        go_loopw [7, 8, 9] (fun kv ev iv wr => kv = .int .i64 CT ∧ ev = .int .i64 2 ∧ iv = .int .i64 0 ∧ wr = w1) (fun _ _ _ _ => 0)
        case atStart => exact ⟨rfl, rfl, rfl, rfl⟩
        case round =>
          obtain ⟨rfl, rfl, rfl, rfl⟩ := hrel
          have y1 : (0 : Int) < s.c.fuses := by omega
          by_cases hkn : CT < n
          all_goals
            go_wp2
            go_ret
            rw [HE.out]
            exact ⟨rfl, HR0.out.dr d1, (KeptL.refl _ _).dr d1⟩
      · have hn3 : n > s.c.fuses := by omega
        have hn4 : s.c.fuses < n := hn3
        go_enter Try.func27, Try.ntmps27
        go_wp2_with (refine (HM.out _ rfl).mono ?_; rintro e w1 ⟨rfl, d1⟩; have c21 := d1.cell c2)
        go_loopw [7, 8, 9] (fun kv ev iv wr => kv = .int .i64 CT ∧ ev = .int .i64 2 ∧ iv = .int .i64 0 ∧ wr = w1) (fun _ _ _ _ => 0)
        case atStart => exact ⟨rfl, rfl, rfl, rfl⟩
        case round =>
          obtain ⟨rfl, rfl, rfl, rfl⟩ := hrel
          have y1 : (0 : Int) < s.c.fuses := by omega
          by_cases hkn : CT < n
          all_goals
            go_wp2
            go_ret
            rw [HE.out]
            exact ⟨rfl, HR0.out.dr d1, (KeptL.refl _ _).dr d1⟩
    · have hn2 : ¬ n < 0 := by omega
      have hn3 : ¬ n > s.c.fuses := by omega
      have hn4 : ¬ s.c.fuses < n := by omega
      obtain ⟨fn, hfn⟩ : ∃ fn, fn = s.c.fuses.toNat := ⟨_, rfl⟩
      have hfz : s.c.fuses = (fn : Int) := by omega
      have HRI : Hid (Rz7 (s.o7 slot) n fn R s s 0 (s.count slot) 0) := by
        obtain ⟨a, b⟩ := hf.count0 slot
        exact ⟨hf, hg, rfl, by omega, a, by omega, fun _ => by rw [HRS.out, if_pos h0, if_neg hn1, hfn]; rfl, fun h => absurd rfl h⟩
      have HBL : Hid (∀ s' : RS, s'.Fu → s'.c = s.c → s.o7 slot + fn ≤ s'.blown.length) := fun s' h1 h2 => by
        have := h1.bl; rw [h2] at this; omega
      clear HRS hbl hf hg hn1
      generalize s.count slot = CT at *
      generalize s.o7 slot = o at *
      have HFZ : Hid (s.c.fuses = (fn : Int)) := hfz
      rw [hfz] at c2 hn3 hn4 f1 f2 r1 r2 r3 r4
      have w1 : IntKind.i64.wrap (slot * (fn : Int)) = slot * (fn : Int) := i64_in _ (by omega) (by omega)
      have r3' : (o : Int) ≤ 512 := by omega
      clear hfz hfn r1 r2 r3 i1 i2 hk h0
      go_enter Try.func27, Try.ntmps27
      go_wp2_with (refine (HM.out _ rfl).mono ?_; rintro e w1 ⟨rfl, d1⟩; have c21 := d1.cell c2)
      go_loopw [7, 8, 9] (fun kv ev iv wr => ∃ (i : Nat) (k e : Int) (s' : RS), i ≤ fn ∧ kv = .int .i64 k ∧ ev = .int .i64 e ∧ iv = .int .i64 i ∧ Hid (Rz7 o n fn R s s' i k e) ∧ Hid (RAt wr F s') ∧ Hid (KeptL F.blocks w wr)) (fun _ _ iv _ => fn - (intOf iv).toNat)
      case atStart => exact ⟨0, _, _, s, by omega, rfl, rfl, rfl, HRI.out, HR0.out.dr d1, (KeptL.refl _ _).dr d1⟩
      case round =>
        obtain ⟨i, k, e, s', hi, rfl, rfl, rfl, hra, hr, kl⟩ := hrel
        have c2' : wr.cell? ⟨F.g, 2, none⟩ = some (.int .i64 (fn : Int)) := by rw [← HFZ.out, ← hra.out.c]; exact hr.out.row.cell 2 _ rfl
        by_cases hlt : i < fn
        · have y1 : (i : Int) < (fn : Int) := by omega
          by_cases hkn : n ≤ k
          · have y2 : ¬ k < n := by omega
            have HE : Hid (R = (s', e)) := hra.out.fin (.inr (.inl hkn))
            go_wp2
            go_ret
            rw [HE.out]
            exact ⟨rfl, hr.out, kl.out⟩
          · have y2 : k < n := by omega
            by_cases he : e = 0
            · subst he
              have c9 := hr.out.cBl
              have hbl := HBL.out s' hra.out.fu hra.out.c
              have cx : wr.cell? ⟨F.bB, o + i, none⟩ = some (.bool (s'.blown.getD (o + i) false)) := hr.out.bl.cell _ _ (by
                rw [List.getElem?_map, List.getD_eq_getElem?_getD, List.getElem?_eq_getElem (by omega)]; rfl)
              have hk0 := hra.out.k0
              have hk1 := hra.out.k1
              have hsn := hra.out.an
              have HSK : Hid (s'.blown.getD (o + i) false = true → Rz7 o n fn R s s' (i + 1) k 0) := fun hb => hra.out.skip hlt hkn hb
              have HBW : Hid (s'.blown.getD (o + i) false = false → Rz7 o n fn R s (s'.blow ((o + i : Nat) : Int)) (i + 1) (k + 1) (s'.blowE ((o + i : Nat) : Int))) := fun hb => hra.out.blow hlt hkn hb
              obtain ⟨q, hq⟩ : ∃ q, q = o + i := ⟨_, rfl⟩
              rw [← hq] at cx HSK HBW
              have w2 : IntKind.i64.wrap (slot * (fn : Int) + (i : Int)) = (q : Int) := by rw [← r4, hq]; exact i64_in _ (by omega) (by omega)
              have y0 : (0 : Int) ≤ (q : Int) := by omega
              have y3 : (q : Int) < (s'.blown.length : Int) := by omega
              have w3 : IntKind.i64.wrap (k + 1) = k + 1 := i64_in _ (by omega) (by omega)
              generalize s'.blown.getD q false = b at *
              have HBA : Hid (∀ W, Dr wr W → Calls Try.prog 32 #[.pointer (some ⟨F.g, 0, none⟩), .int .i64 (q : Int)] W fun e w' => e = .returned (.int .i64 (s'.blowE (q : Int))) ∧ RAt w' F (s'.blow (q : Int)) ∧ KeptL F.blocks W w') := fun W d => blow_any F s' q W (hr.out.dr d) hra.out.good.n0 (by omega) hra.out.good.wt
              generalize s'.blown.length = BL at *
              clear hq hbl
              cases b
              · have HN := HBW.out rfl
                have HN' : Hid _ := HN
                clear HN HBW HSK
                generalize s'.blowE (q : Int) = E at *
                generalize s'.blow (q : Int) = s2 at *
                go_wp2
                go_quiet (fail)
                have dq : Dr wr (wr.drewN nq) := ⟨nq, rfl⟩
                have c2q := dq.cell c2'
                go_wp2_with (refine (HBA.out _ dq).mono ?_; rintro e2 w3 ⟨rfl, hr3, kl3⟩)
                exact ⟨⟨i + 1, k + 1, E, s2, by omega, rfl, rfl, by simp, HN'.out, hr3, (kl.out.dr dq).trans kl3⟩, by simp [intOf]; omega⟩
              · have HN' : Hid _ := HSK.out rfl
                clear HBW HSK
                go_wp2
                go_quiet (fail)
                go_wp2
                exact ⟨⟨i + 1, k, 0, s', by omega, rfl, rfl, by simp, HN'.out, hr.out.dr ⟨nq, rfl⟩, kl.out.dr ⟨nq, rfl⟩⟩, by simp [intOf]; omega⟩
            · have e1 : (e == 0) = false := by rw [beq_eq_false_iff_ne]; exact he
              have HE : Hid (R = (s', e)) := hra.out.fin (.inr (.inr he))
              go_wp2
              go_ret
              rw [HE.out]
              exact ⟨rfl, hr.out, kl.out⟩
        · have y1 : ¬ (i : Int) < (fn : Int) := by omega
          have HE : Hid (R = (s', e)) := hra.out.fin (.inl (by omega))
          go_wp2
          go_ret
          rw [HE.out]
          exact ⟨rfl, hr.out, kl.out⟩
  · have HE : Hid (R = (s, s.countE slot)) := by show _ = _; rw [HRS.out, if_neg h0]
    have f1 := hf.f1
    clear HRS
    generalize s.countE slot = f at *
    generalize s.count slot = CT at *
    have e1 : (f == 0) = false := by rw [beq_eq_false_iff_ne]; exact h0
    go_enter Try.func27, Try.ntmps27
    go_wp2_with (refine (HM.out _ rfl).mono ?_; rintro e w1 ⟨rfl, d1⟩; have c21 := d1.cell c2)
    go_loopw [7, 8, 9] (fun kv ev iv wr => kv = .int .i64 CT ∧ ev = .int .i64 f ∧ iv = .int .i64 0 ∧ wr = w1) (fun _ _ _ _ => 0)
    case atStart => exact ⟨rfl, rfl, rfl, rfl⟩
    case round =>
      obtain ⟨rfl, rfl, rfl, rfl⟩ := hrel
      have y1 : (0 : Int) < s.c.fuses := by omega
      by_cases hkn : CT < n
      all_goals
        go_wp2
        go_ret
        rw [HE.out]
        exact ⟨rfl, HR0.out.dr d1, (KeptL.refl _ _).dr d1⟩

set_option maxHeartbeats 2000000 in
set_option maxRecDepth 100000 in
theorem q7revoke_any (F : RF) (s : RS) (k : Int) (w : World) (h : RAt w F s) (hf : s.Fu) (hg : s.Good) (hn : s.n < 4611686018427387000) :
    Calls Try.prog 29 #[.pointer (some ⟨F.g, 0, none⟩), .int .i64 k] w fun e w' => e = .returned (.int .i64 (s.revoke k).2) ∧ RAt w' F (s.revoke k).1 ∧ KeptL F.blocks w w' := by
  have HM : Hid (∀ W, W = w → Calls Try.prog 28 #[.pointer (some ⟨F.g, 0, none⟩), .int .i64 k] W fun e w' => e = .returned (.tuple #[.bool (s.revoked k), .int .i64 (s.revokedE k)]) ∧ Dr W w') := by
    rintro W rfl
    exact q7revoked_any F s k W h hf
  have HRS : Hid (s.revoke k = if s.revokedE k = 0 then (if s.revoked k then (s, 0) else (s.blow (s.key k), s.blowE (s.key k))) else (s, s.revokedE k)) := rfl
  generalize s.revoke k = R at *
  have HR0 : Hid (RAt w F s) := h
  have c1 : w.cell? ⟨F.g, 1, none⟩ = some (.int .i64 s.c.slots) := h.row.cell 1 _ rfl
  have c2 : w.cell? ⟨F.g, 2, none⟩ = some (.int .i64 s.c.fuses) := h.row.cell 2 _ rfl
  by_cases h0 : s.revokedE k = 0
  · obtain ⟨_, i1, i2⟩ := ask_zero h0
    obtain ⟨m1, m2⟩ := hf.mul
    have k2 := hf.k2
    rw [h0] at HM
    by_cases hb : s.revoked k = true
    · have HE : Hid (R = (s, 0)) := by show _ = _; rw [HRS.out, if_pos h0, if_pos hb]
      clear HRS
      rw [hb] at HM
      go_enter Try.func29, Try.ntmps29
      go_wp2_with (refine (HM.out _ rfl).mono ?_; rintro e w1 ⟨rfl, d1⟩)
      go_ret
      rw [HE.out]
      exact ⟨rfl, HR0.out.dr d1, (KeptL.refl _ _).dr d1⟩
    · have HE : Hid (R = (s.blow (s.key k), s.blowE (s.key k))) := by show _ = _; rw [HRS.out, if_pos h0, if_neg hb]
      have hb' : s.revoked k = false := by simpa using hb
      rw [hb'] at HM
      have ek : s.key k = s.c.slots * s.c.fuses + k := rfl
      have HBA : Hid (∀ W, Dr w W → Calls Try.prog 32 #[.pointer (some ⟨F.g, 0, none⟩), .int .i64 (s.c.slots * s.c.fuses + k)] W fun e w' => e = .returned (.int .i64 (s.blowE (s.key k))) ∧ RAt w' F (s.blow (s.key k)) ∧ KeptL F.blocks W w') := fun W d => by
        rw [ek]; exact blow_any F s _ W (HR0.out.dr d) hg.n0 (by omega) hg.wt
      have w1 : IntKind.i64.wrap (s.c.slots * s.c.fuses) = s.c.slots * s.c.fuses := i64_in _ (by omega) (by omega)
      have w2 : IntKind.i64.wrap (s.c.slots * s.c.fuses + k) = s.c.slots * s.c.fuses + k := i64_in _ (by omega) (by omega)
      clear HRS hb hb' h0 hf hg ek i2 h
      generalize s.blow (s.key k) = s2 at *
      generalize s.blowE (s.key k) = E at *
      generalize s.c.slots = SL at *
      generalize s.c.fuses = FSZ at *
      go_enter Try.func29, Try.ntmps29
      go_wp2_with (refine (HM.out _ rfl).mono ?_; rintro e w1 ⟨rfl, d1⟩; have c11 := d1.cell c1; have c21 := d1.cell c2)
      refine wp_region_still_tail 14 (by kernel_rfl) (by kernel_rfl) ?_
      simp only [List.take_succ_cons, List.take_zero, List.drop_succ_cons, List.drop_zero]
      have hd : Dr w1 { w1 with drawn := w1.drawn + 1 } := ⟨1, rfl⟩
      generalize { w1 with drawn := w1.drawn + 1 } = wq at hd ⊢
      replace c11 := hd.cell c11
      replace c21 := hd.cell c21
      repeat still_step
      refine wpStill_nil ?_
      go_wp2_with (refine (HBA.out _ (d1.trans hd)).mono ?_; rintro e2 w3 ⟨rfl, hr3, kl3⟩)
      go_ret
      rw [HE.out]
      exact ⟨rfl, hr3, ((KeptL.refl _ _).dr (d1.trans hd)).trans kl3⟩
  · have HE : Hid (R = (s, s.revokedE k)) := by show _ = _; rw [HRS.out, if_neg h0]
    clear HRS
    generalize s.revokedE k = f at *
    generalize s.revoked k = b at *
    have e1 : (f != 0) = true := by rw [bne_iff_ne]; exact h0
    go_enter Try.func29, Try.ntmps29
    go_wp2_with (refine (HM.out _ rfl).mono ?_; rintro e w1 ⟨rfl, d1⟩)
    go_ret
    rw [HE.out]
    exact ⟨rfl, HR0.out.dr d1, (KeptL.refl _ _).dr d1⟩
end Go.Proofs.Ytngfdofjflmhhaa
