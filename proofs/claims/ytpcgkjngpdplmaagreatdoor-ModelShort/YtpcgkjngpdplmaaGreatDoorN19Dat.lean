
import Derived.Test.YtpcgkjngpdplmaaGreatDoorN19Math
/-! The code's model as data: every deed keeps states as they may be, and tells no more than it may. -/
namespace Go.Proofs.YtpcgkjngpdplmaaGreatDoor
open Go.RowKit
set_option linter.unusedVariables false

theorem CS.Ok.mono {c : Cfg} {g g' : Nat} {s : CS} (h : s.Ok c g) (hg : g ≤ g') : s.Ok c g' :=
  ⟨h.num, h.val, h.rev, by have := h.l0; omega, by have := h.l1; omega, h.slot, h.ver, h.ev, h.cuts, h.first⟩
theorem goes_mem {L : List CS} {p : AN × CS} (h : p ∈ goesC L) : ∃ t ∈ L, t.cuts < 12 ∧ p = (an0 8, { t with cuts := t.cuts + 1, pow := false }) := by
  unfold goesC at h
  obtain ⟨t, ht, hp⟩ := List.mem_filterMap.1 h
  split at hp
  · rename_i hc
    injection hp with hp
    exact ⟨t, ht, hc, hp.symm⟩
  · cases hp
theorem goes_ok {c : Cfg} {g : Nat} {L : List CS} (hL : ∀ t ∈ L, t.Ok c g) {p : AN × CS} (h : p ∈ goesC L) : p.2.Ok c g := by
  obtain ⟨t, ht, hc, rfl⟩ := goes_mem h
  have := hL t ht
  exact ⟨this.num, this.val, this.rev, this.l0, this.l1, this.slot, this.ver, this.ev, by show t.cuts + 1 ≤ 12; omega, this.first⟩
theorem two_wt {s : CS} (hs : s.cuts ≤ 12) {p : AN × CS} (hp : p.2.cuts = s.cuts) (ep : p.1.e ≠ 8) (L : List CS) (hL : ∀ t ∈ L, t.cuts = s.cuts) (h4 : L.length ≤ 4) (a : AN) : wtL (hitC a (p :: goesC L)) ≤ s.wt := by
  rw [hit_cons]
  by_cases ha : a.e = 8
  · rw [if_neg (fun e => ep (by rw [e]; exact ha))]
    exact goes_wt hs a L hL h4
  · rw [goes_other ha]
    split
    · rw [wtL_cons, wtL_nil]; unfold CS.wt; rw [hp]; exact Nat.le_refl _
    · exact Nat.zero_le _
theorem three_wt {s : CS} (hs : s.cuts ≤ 12) {p q : AN × CS} (hp : p.2.cuts = s.cuts) (hq : q.2.cuts = s.cuts) (ep : p.1.e ≠ 8) (eq : q.1.e ≠ 8) (epq : p.1.e ≠ q.1.e) (L : List CS) (hL : ∀ t ∈ L, t.cuts = s.cuts) (h4 : L.length ≤ 4) (a : AN) : wtL (hitC a (p :: q :: goesC L)) ≤ s.wt := by
  rw [hit_cons]
  by_cases h1 : p.1 = a
  · rw [if_pos h1, hit_cons, if_neg (fun e => epq (by rw [h1, e])), goes_other (by rw [← h1]; exact ep), wtL_cons, wtL_nil]
    unfold CS.wt; rw [hp]; exact Nat.le_refl _
  · rw [if_neg h1]
    exact two_wt hs hq eq L hL h4 a
theorem lay_cuts (s : CS) (i k : Nat) : (s.lay i k).cuts = s.cuts := by unfold CS.lay; split <;> rfl
theorem CS.Ok.lay {c : Cfg} {g : Nat} {s : CS} (h : s.Ok c g) (i k : Nat) (hk : k < g) : (s.lay i k).Ok c g := by
  unfold CS.lay
  split
  · exact ⟨h.num, h.val, h.rev, hk, h.l1, h.slot, h.ver, h.ev, h.cuts, h.first⟩
  · exact ⟨h.num, h.val, h.rev, h.l0, hk, h.slot, h.ver, h.ev, h.cuts, h.first⟩
theorem CS.Ok.setFirst {c : Cfg} {g : Nat} {s : CS} (h : s.Ok c g) (t : Nat) (ht : t ≤ 1) : ({ s with first := t } : CS).Ok c g := ⟨h.num, h.val, h.rev, h.l0, h.l1, h.slot, h.ver, h.ev, h.cuts, ht⟩
theorem CS.Ok.raised {c : Cfg} {g : Nat} {s : CS} (h : s.Ok c g) (k : Nat) (v : Int) (h0 : 0 ≤ v) (h1 : v ≤ c.last) : (s.raised k v).Ok c g :=
  ⟨by show (s.num.set k v).length = 8; rw [List.length_set]; exact h.num, fun i hi => by
    show 0 ≤ (s.num.set k v).getD i 0 ∧ (s.num.set k v).getD i 0 ≤ c.last
    have := h.val i hi
    rw [List.getD_eq_getElem?_getD, List.getElem?_set]
    split
    · split
      · exact ⟨h0, h1⟩
      · rename_i hx hy; exact absurd (by have := h.num; omega : k < s.num.length) hy
    · rw [← List.getD_eq_getElem?_getD]; exact this, h.rev, h.l0, h.l1, h.slot, h.ver, h.ev, h.cuts, h.first⟩
theorem CS.Ok.dropped {c : Cfg} {g : Nat} {s : CS} (h : s.Ok c g) : s.drop.Ok c g := ⟨h.num, h.val, h.rev, h.l0, h.l1, by show (0 : Nat) < 8; omega, by show (0 : Nat) < 4294967296; omega, h.ev, h.cuts, h.first⟩
theorem raise_dok {c : Cfg} {g : Nat} {s : CS} (h : s.Ok c g) (k : Nat) (hk : k < 8) (v : Int) (a : AN) (ha : a.e = 0) : (∀ p ∈ raiseC c k v a s, p.2.Ok c g) ∧ ∀ x, wtL (hitC x (raiseC c k v a s)) ≤ s.wt := by
  unfold raiseC
  by_cases h1 : v ≤ s.num.getD k 0
  · rw [if_pos h1]
    exact ⟨fun p hp => by rw [List.mem_singleton.1 hp]; exact h, one_wt rfl⟩
  · rw [if_neg h1]
    by_cases h2 : c.last < v
    · rw [if_pos h2]
      exact ⟨fun p hp => by rw [List.mem_singleton.1 hp]; exact h, one_wt rfl⟩
    · rw [if_neg h2]
      have hr : (s.raised k v).Ok c g := h.raised k v (by have := h.val k hk; omega) (by omega)
      refine ⟨fun p hp => ?_, three_wt h.cuts (by rfl) (by rfl) (by rw [ha]; decide) (by show (9 : Int) ≠ 8; decide) (by show a.e ≠ 9; rw [ha]; decide) _ (fun t ht => ?_) (by simp)⟩
      · rcases List.mem_cons.1 hp with rfl | hp
        · exact hr
        · rcases List.mem_cons.1 hp with rfl | hp
          · exact h
          · refine goes_ok (fun t ht => ?_) hp
            rcases List.mem_cons.1 ht with rfl | ht
            · exact h
            · rw [List.mem_singleton.1 ht]; exact hr
      · rcases List.mem_cons.1 ht with rfl | ht
        · rfl
        · rw [List.mem_singleton.1 ht]; rfl
theorem revoke_dok {c : Cfg} {g : Nat} {s : CS} (h : s.Ok c g) (k : Nat) (hk : k < 64) : (∀ p ∈ revokeC k s, p.2.Ok c g) ∧ ∀ x, wtL (hitC x (revokeC k s)) ≤ s.wt := by
  unfold revokeC
  split
  · exact ⟨fun p hp => by rw [List.mem_singleton.1 hp]; exact h, one_wt rfl⟩
  · have hr : ({ s with rev := s.rev ||| 2 ^ k } : CS).Ok c g := ⟨h.num, h.val, Nat.or_lt_two_pow h.rev (Nat.pow_lt_pow_right (by omega) hk), h.l0, h.l1, h.slot, h.ver, h.ev, h.cuts, h.first⟩
    refine ⟨fun p hp => ?_, two_wt h.cuts rfl (by show (0 : Int) ≠ 8; decide) _ (fun t ht => ?_) (by simp)⟩
    · rcases List.mem_cons.1 hp with rfl | hp
      · exact hr
      · refine goes_ok (fun t ht => ?_) hp
        rcases List.mem_cons.1 ht with rfl | ht
        · exact h
        · rw [List.mem_singleton.1 ht]; exact hr
    · rcases List.mem_cons.1 ht with rfl | ht
      · rfl
      · rw [List.mem_singleton.1 ht]
theorem tried_dok {c : Cfg} {g : Nat} {s : CS} (h : s.Ok c g) (f : Fd) (e : Int) (d : List By) (hf : e = 0 → f.slot < 8 ∧ f.ver < 4294967296) : (∀ p ∈ triedC f e d s, p.2.Ok c g) ∧ ∀ x, wtL (hitC x (triedC f e d s)) ≤ s.wt := by
  unfold triedC
  by_cases h1 : 1024 ≤ s.ev
  · rw [if_pos h1]
    exact ⟨fun p hp => by rw [List.mem_singleton.1 hp]; exact h.dropped, one_wt rfl⟩
  · rw [if_neg h1]
    by_cases h2 : e ≠ 0
    · rw [if_pos h2]
      exact ⟨fun p hp => by rw [List.mem_singleton.1 hp]; exact ⟨h.num, h.val, h.rev, h.l0, h.l1, by show (0 : Nat) < 8; omega, by show (0 : Nat) < 4294967296; omega, by show s.ev + 1 ≤ 1024; omega, h.cuts, h.first⟩, one_wt rfl⟩
    · rw [if_neg h2]
      have h3 : e = 0 := Classical.not_not.1 h2
      exact ⟨fun p hp => by rw [List.mem_singleton.1 hp]; exact ⟨h.num, h.val, h.rev, h.l0, h.l1, (hf h3).1, (hf h3).2, by show s.ev + 1 ≤ 1024; omega, h.cuts, h.first⟩, one_wt rfl⟩
theorem find_ver {b : List By} {sl k v : Nat} {p t : List By} (h : parse b = .ok (sl, k, v, p, t)) : v < 4294967296 := by
  unfold parse at h
  split at h
  · cases h
  · split at h
    · cases h
    · simp only at h
      split at h
      · cases h
      · split at h
        · cases h
        · split at h
          · cases h
          · injection h with h
            injection h with _ h
            injection h with _ h
            injection h with h _
            rw [← h]
            exact num4_lt _
theorem find_ok {c : Cfg} {l : Secs} (hs : c.slots ≤ 8) (hk : c.keys ≤ 64) (b : List By) (h : (findC c l b).wrong = 0) : (findC c l b).slot < 8 ∧ (findC c l b).key < 64 ∧ (findC c l b).ver < 4294967296 := by
  unfold findC at h ⊢
  split
  · rename_i e x hp
    rw [hp] at h
    have h : (e : Int) = 0 := h
    have := (parse_wrong hp).1
    omega
  · rename_i sl k v p t hp
    rw [hp] at h
    simp only at h ⊢
    split
    · rename_i h1; rw [if_pos h1] at h; exact absurd h (by simp)
    · rename_i h1
      rw [if_neg h1] at h
      split
      · rename_i h2; rw [if_pos h2] at h; exact absurd h (by simp)
      · rename_i h2
        simp only
        have := find_ver hp
        omega
theorem check_zero {c : Cfg} {f : Fd} {s : CS} (h : checkC c f s = 0) : f.wrong = 0 := by
  unfold checkC at h
  split at h
  · assumption
  · rename_i h1; exact Classical.not_not.1 h1
theorem stg_ok {c : Cfg} {l : Secs} (hs : c.slots ≤ 8) (hk : c.keys ≤ 64) (B : List (List By)) (k : Nat) (h : (stg c l B k).1.wrong = 0) : (stg c l B k).1.slot < 8 ∧ (stg c l B k).1.key < 64 ∧ (stg c l B k).1.ver < 4294967296 := by
  unfold stg at h ⊢
  split
  · rename_i h0; rw [if_pos h0] at h; exact absurd h (by simp)
  · rename_i h0; rw [if_neg h0] at h; exact find_ok hs hk _ h
theorem started_ok {c : Cfg} {l : Secs} {B : List (List By)} {s : CS} {n : Nat} (h : startedC c l B s = some n) : (n = s.first ∨ n = 1 - s.first) ∧ checkC c (stg c l B (s.lies n)).1 s = 0 := by
  unfold startedC at h
  split at h
  · injection h with h; subst h; exact ⟨.inl rfl, by assumption⟩
  · split at h
    · injection h with h; subst h; exact ⟨.inr rfl, by assumption⟩
    · cases h
theorem target_le {c : Cfg} {l : Secs} {B : List (List By)} {s : CS} : targetC c l B s ≤ 1 := by unfold targetC; split <;> omega
theorem start_dok {c : Cfg} {g : Nat} {l : Secs} (hs : c.slots ≤ 8) (hk : c.keys ≤ 64) {B : List (List By)} {s : CS} (h : s.Ok c g) : (∀ p ∈ startC c l B s, p.2.Ok c g) ∧ ∀ x, wtL (hitC x (startC c l B s)) ≤ s.wt := by
  unfold startC
  split
  · exact tried_dok h _ _ _ (fun e => absurd e (by decide))
  · rename_i n hn
    exact tried_dok h _ _ _ (fun _ => have q := stg_ok hs hk _ _ (check_zero (started_ok hn).2); ⟨q.1, q.2.2⟩)
theorem stage_dok {c : Cfg} {g : Nat} {l : Secs} {B : List (List By)} {b : List By} {n : Nat} {s : CS} (h : s.Ok c g) (hn : n < g) : (∀ p ∈ stageC c l B b n s, p.2.Ok c g) ∧ ∀ x, wtL (hitC x (stageC c l B b n s)) ≤ s.wt := by
  unfold stageC
  simp only
  split
  · exact ⟨fun p hp => by rw [List.mem_singleton.1 hp]; exact h, one_wt rfl⟩
  · split
    · exact ⟨fun p hp => by rw [List.mem_singleton.1 hp]; exact h, one_wt rfl⟩
    · have ht := @target_le c l B s
      generalize targetC c l B s = t at *
      have h0 : 0 < g := by have := h.l0; omega
      have hd : ({ s.lay t n with first := t } : CS).Ok c g := (h.lay t n hn).setFirst t ht
      have hL : ∀ u ∈ [s, s.lay t 0, s.lay t n, { s.lay t n with first := t }], u.Ok c g ∧ u.cuts = s.cuts := by
        intro u hu
        simp only [List.mem_cons, List.not_mem_nil, or_false] at hu
        rcases hu with rfl | rfl | rfl | rfl
        · exact ⟨h, rfl⟩
        · exact ⟨h.lay t 0 h0, lay_cuts ..⟩
        · exact ⟨h.lay t n hn, lay_cuts ..⟩
        · exact ⟨hd, lay_cuts ..⟩
      refine ⟨fun p hp => ?_, three_wt h.cuts (lay_cuts ..) rfl (by show (0 : Int) ≠ 8; decide) (by show (9 : Int) ≠ 8; decide) (by show (0 : Int) ≠ 9; decide) _ (fun u hu => (hL u hu).2) (by simp)⟩
      rcases List.mem_cons.1 hp with rfl | hp
      · exact hd
      · rcases List.mem_cons.1 hp with rfl | hp
        · exact h
        · exact goes_ok (fun u hu => (hL u hu).1) hp
theorem laid_ok (c : Cfg) (l : Secs) (B : List (List By)) (b : List By) : (layC c l B b).1 < (layC c l B b).2.length + 1 ∧ B.length ≤ (layC c l B b).2.length := by
  unfold layC
  split
  · exact ⟨by simp, Nat.le_refl _⟩
  · split
    · rename_i i hi
      obtain ⟨h, _⟩ := List.findIdx?_eq_some_iff_getElem.1 hi
      exact ⟨by simp only; omega, Nat.le_refl _⟩
    · exact ⟨by simp, by simp⟩
theorem sta_len (c : Cfg) (l : Secs) (B : List (List By)) (o : SP) : B.length ≤ (staC c l B o).length ∧ (staC c l B o).length ≤ B.length + 1 := by
  unfold staC
  split
  · refine ⟨(laid_ok c l B o.b).2, ?_⟩
    unfold layC
    split
    · simp
    · split <;> simp
  · omega
theorem asked_dok {c : Cfg} {g : Nat} {l : Secs} (hs : c.slots ≤ 8) (hk : c.keys ≤ 64) {B : List (List By)} {n : Nat} (o : SP) {s : CS} (h : s.Ok c g) (hn : o.kind = 8 → n < g) : (∀ p ∈ askedC c l B n o s, p.2.Ok c g) ∧ ∀ x, wtL (hitC x (askedC c l B n o s)) ≤ s.wt := by
  have one : ∀ a : AN, (∀ p ∈ [(a, s)], p.2.Ok c g) ∧ ∀ x, wtL (hitC x [(a, s)]) ≤ s.wt := fun a => ⟨fun p hp => by rw [List.mem_singleton.1 hp]; exact h, one_wt rfl⟩
  unfold askedC
  split
  · split <;> exact one _
  · split
    · split
      · exact raise_dok h _ (by omega) _ _ rfl
      · exact one _
    · split
      · split
        · exact raise_dok h _ (by omega) _ _ rfl
        · exact one _
      · split
        · split
          · exact revoke_dok h _ (by omega)
          · exact one _
        · split
          · split <;> exact one _
          · split
            · exact tried_dok h _ _ _ (fun e => have q := find_ok hs hk _ (check_zero e); ⟨q.1, q.2.2⟩)
            · split
              · unfold confirmC
                split
                · exact raise_dok h _ h.slot _ _ rfl
                · exact one _
              · split
                · exact stage_dok h (hn (by assumption))
                · exact start_dok hs hk h
theorem deed_dok {c : Cfg} {l : Secs} (hs : c.slots ≤ 8) (hk : c.keys ≤ 64) (B : List (List By)) (o : SP) : DOk c (B.length + 1) ((staC c l B o).length + 1) (deedC c l B o) := by
  have key : ∀ s : CS, s.Ok c (B.length + 1) → (∀ p ∈ deedC c l B o s, p.2.Ok c ((staC c l B o).length + 1)) ∧ ∀ x, wtL (hitC x (deedC c l B o s)) ≤ s.wt := by
    intro s hs0
    have h : s.Ok c ((staC c l B o).length + 1) := hs0.mono (by have := (sta_len c l B o).1; omega)
    have one : ∀ a : AN, (∀ p ∈ [(a, s)], p.2.Ok c ((staC c l B o).length + 1)) ∧ ∀ x, wtL (hitC x [(a, s)]) ≤ s.wt := fun a => ⟨fun p hp => by rw [List.mem_singleton.1 hp]; exact h, one_wt rfl⟩
    unfold deedC
    split
    · exact one _
    · split
      · exact ⟨fun p hp => by rw [List.mem_singleton.1 hp]; exact ⟨h.num, h.val, h.rev, h.l0, h.l1, h.slot, h.ver, h.ev, h.cuts, h.first⟩, one_wt rfl⟩
      · split
        · unfold mountC
          split
          · exact ⟨fun p hp => by rw [List.mem_singleton.1 hp]; exact ⟨h.num, h.val, h.rev, h.l0, h.l1, by show (0 : Nat) < 8; omega, by show (0 : Nat) < 4294967296; omega, by show (0 : Nat) ≤ 1024; omega, h.cuts, h.first⟩, one_wt rfl⟩
          · exact ⟨fun p hp => by rw [List.mem_singleton.1 hp]; exact ⟨h.num, h.val, h.rev, h.l0, h.l1, h.slot, h.ver, h.ev, h.cuts, h.first⟩, one_wt rfl⟩
        · split
          · unfold onRomC
            split <;> exact one _
          · split
            · unfold onRomC withPowerC
              split
              · split
                · exact asked_dok hs hk o h (fun e => by unfold staC; rw [if_pos e]; exact (laid_ok c l B o.b).1)
                · exact one _
              · exact one _
            · exact one _
  exact ⟨fun s h => (key s h).1, fun s h => (key s h).2⟩
theorem hit_mem {a : AN} {T : TL} {t : CS} (h : t ∈ hitC a T) : ∃ p ∈ T, p.2 = t := by
  unfold hitC at h
  obtain ⟨p, hp, e⟩ := List.mem_filterMap.1 h
  split at e
  · injection e with e; exact ⟨p, hp, e⟩
  · cases e
theorem beh_ok {c : Cfg} {g g' : Nat} {D : CS → TL} (hD : DOk c g g' D) (a : AN) {C : List CS} (hC : ∀ s ∈ C, s.Ok c g) : (∀ t ∈ behC D a C, t.Ok c g') ∧ wtL (behC D a C) ≤ wtL C := by
  constructor
  · intro t ht
    obtain ⟨s, hs, hh⟩ := List.mem_flatMap.1 ht
    obtain ⟨p, hp, rfl⟩ := hit_mem hh
    exact hD.ok s (hC s hs) p hp
  · induction C with
    | nil => exact Nat.le_refl _
    | cons s C ih =>
      have := ih fun t ht => hC t (List.mem_cons_of_mem _ ht)
      have h2 := hD.wt s (hC s (List.mem_cons_self ..)) a
      unfold behC at this ⊢
      rw [List.flatMap_cons, wtL_append, wtL_cons]
      omega
end Go.Proofs.YtpcgkjngpdplmaaGreatDoor
