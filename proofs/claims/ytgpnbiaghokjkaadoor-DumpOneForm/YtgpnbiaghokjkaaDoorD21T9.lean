import Derived.Test.YtgpnbiaghokjkaaDoorD21T7
import Derived.Test.YtgpnbiaghokjkaaDoorD21SpM
/-! Layer 21, the landed code: one line after the other. -/
namespace Go.Proofs.YtgpnbiaghokjkaaDoor
open Go.RowKit
set_option linter.unusedVariables false
set_option linter.unusedSimpArgs false
set_option maxRecDepth 100000

theorem splitF_len : ∀ (f : Nat) (t L : List By), L ∈ splitF f t → L.length ≤ t.length
  | 0, t, L, h => by cases h
  | f + 1, t, L, h => by
    rw [splitF] at h
    split at h
    · rename_i l r hl
      have e := (lineOf_some t l r hl).1
      rcases List.mem_cons.1 h with rfl | h
      · rw [e, List.length_append, List.length_append, List.length_cons]; simp
      · have := splitF_len f r L h
        have := lineOf_len hl
        omega
    · split at h
      · cases h
      · rw [List.mem_singleton.1 h]; exact Nat.le_refl _
theorem splitF_many : ∀ (f : Nat) (t : List By), (splitF f t).length ≤ t.length
  | 0, t => Nat.zero_le _
  | f + 1, t => by
    rw [splitF]
    split
    · rename_i l r hl
      have := splitF_many f r
      have := lineOf_len hl
      rw [List.length_cons]; omega
    · split
      · exact Nat.zero_le _
      · rename_i h; rw [List.length_singleton]; exact List.length_pos_iff.2 h
abbrev Cc (c : Cfg) : Nat := c.cells.toNat
abbrev Mm (c : Cfg) : Nat := (2 + 2 * c.area).toNat
abbrev Nb (c : Cfg) : Nat := (c.slots * c.fuses + c.keys).toNat
def st2 (c : Cfg) (v : List Nat) : St := ⟨(freshC c).pages, (freshC c).erases, marks (Nb c) v⟩
/-- What codeP tells, by what the lines are. -/
theorem cp0 {T : List By} (h : splitL T = []) : codeP T = .error (5, 1) := by unfold codeP; rw [h]
theorem cp1 {T : List By} {ls : List (List By)} (h : splitL T = ls) {L : List By} (h0 : ls[0]? = some L) (hc : cfC L = none) : codeP T = .error (5, 1) := by
  cases ls with
  | nil => cases h0
  | cons L1 ls =>
    injection h0 with h0
    subst h0
    unfold cfC at hc
    unfold codeP
    rw [h]
    dsimp only
    rw [hc]
theorem cp1b {T : List By} {ls : List (List By)} (h : splitL T = ls) {L : List By} {c : Cfg} (h0 : ls[0]? = some L) (hc : cfC L = some c) (hm : ¬ c.may = 0) : codeP T = .error (1, 1) := by
  cases ls with
  | nil => cases h0
  | cons L1 ls =>
    injection h0 with h0
    subst h0
    unfold cfC at hc
    unfold codeP
    rw [h]
    dsimp only
    rw [hc]
    dsimp only
    rw [if_neg hm]
theorem cp2n {T : List By} {ls : List (List By)} (h : splitL T = ls) {L : List By} {c : Cfg} (h0 : ls[0]? = some L) (hc : cfC L = some c) (hm : c.may = 0) (hl : ls.length = 1) : codeP T = .error (5, 2) := by
  match ls, hl with
  | [L1], _ =>
    injection h0 with h0
    subst h0
    unfold cfC at hc
    unfold codeP
    rw [h]
    dsimp only
    rw [hc]
    dsimp only
    rw [if_pos hm]
theorem cp2 {T : List By} {ls : List (List By)} (h : splitL T = ls) {L L2 : List By} {c : Cfg} (h0 : ls[0]? = some L) (hc : cfC L = some c) (hm : c.may = 0) (h1 : ls[1]? = some L2) (hb : blownC (Nb c) L2 = none) : codeP T = .error (5, 2) := by
  match ls, h0, h1 with
  | L1 :: L2' :: ls, h0, h1 =>
    injection h0 with h0
    subst h0
    injection h1 with h1
    subst h1
    unfold cfC at hc
    unfold codeP
    rw [h]
    dsimp only
    rw [hc]
    dsimp only
    rw [if_pos hm, hb]
theorem cp3 {T : List By} {ls : List (List By)} (h : splitL T = ls) {L L2 : List By} {c : Cfg} {v : List Nat} (h0 : ls[0]? = some L) (hc : cfC L = some c) (hm : c.may = 0) (h1 : ls[1]? = some L2) (hb : blownC (Nb c) L2 = some v) :
    codeP T = (match runC (Cc c) (Mm c) (ls.drop 2) (st2 c v) 0 0 2 with | .ok t => .ok (c, t) | .error k => .error (5, k)) := by
  match ls, h0, h1 with
  | L1 :: L2' :: ls, h0, h1 =>
    injection h0 with h0
    subst h0
    injection h1 with h1
    subst h1
    unfold cfC at hc
    unfold codeP
    rw [h]
    dsimp only
    rw [hc]
    dsimp only
    rw [if_pos hm, hb]
    rfl
/-- The chip's shape, line by line. -/
structure Shp (c : Cfg) (t : St) (pg cl : Nat) : Prop where
  p : t.pages.length = Mm c
  e : t.erases.length = Mm c
  b : t.blown.length = Nb c
  g : ∀ x ∈ t.pages, x.length = Cc c
  pg : pg ≤ Mm c
  cl : cl ≤ Cc c
theorem cfg_small {c : Cfg} (h : c.may = 0) : c.cells = (Cc c : Int) ∧ 0 < Cc c ∧ Cc c ≤ 256 ∧ Mm c ≤ 130 ∧ 0 < Mm c ∧ Nb c ≤ 576 := by
  obtain ⟨⟨s1, s2⟩, ⟨q1, q2⟩, ⟨f1, f2⟩, _, ⟨k1, k2⟩, _, ar1, ar2⟩ := may_all h
  have hmul : c.slots * c.fuses ≤ 512 := by
    have := Int.mul_le_mul s2 f2 (by omega) (by omega); omega
  have hmul0 : 0 ≤ c.slots * c.fuses := Int.mul_nonneg (by omega) (by omega)
  refine ⟨by show c.cells = (c.cells.toNat : Int); omega, by show 0 < c.cells.toNat; omega, by show c.cells.toNat ≤ 256; omega, by show (2 + 2 * c.area).toNat ≤ 130; omega, by show 0 < (2 + 2 * c.area).toNat; omega, by show (c.slots * c.fuses + c.keys).toNat ≤ 576; omega⟩
theorem shp_fresh (c : Cfg) (v : List Nat) : Shp c (st2 c v) 0 0 := by
  refine ⟨?_, ?_, marks_len _ _, fun x hx => ?_, Nat.zero_le _, Nat.zero_le _⟩
  · show (List.replicate _ _).length = _; rw [List.length_replicate]
  · show (List.replicate _ _).length = _; rw [List.length_replicate]
  · have := List.eq_of_mem_replicate (show x ∈ List.replicate (Mm c) (List.replicate (Cc c) (List.replicate 32 255#8)) from hx)
    rw [this, List.length_replicate]
theorem shp_step {c : Cfg} {t t2 : St} {pg cl pg2 cl2 : Nat} {L : List By} (h : Shp c t pg cl) (hs : stepC (Cc c) (Mm c) L t pg cl = some (t2, pg2, cl2)) : Shp c t2 pg2 cl2 := by
  unfold stepC at hs
  split at hs
  · split at hs
    · rename_i n x hx
      split at hs
      · rename_i hc
        injection hs with hs
        injection hs with h1 h2
        injection h2 with h2 h3
        subst h1 h2 h3
        refine ⟨by show (t.pages.set _ _).length = _; rw [List.length_set]; exact h.p, h.e, h.b, fun y hy => ?_, h.pg, hc.2.2.1⟩
        rcases List.mem_or_eq_of_mem_set (show y ∈ t.pages.set _ _ from hy) with hy | rfl
        · exact h.g y hy
        · rw [List.length_set]
          refine h.g _ ?_
          have hp := h.p
          have hpg := h.pg
          rw [List.getD_eq_getElem?_getD, List.getElem?_eq_getElem (by omega)]
          exact List.getElem_mem _
      · cases hs
    · cases hs
  · split at hs
    · rename_i p e hp
      split at hs
      · rename_i hc
        injection hs with hs
        injection hs with h1 h2
        injection h2 with h2 h3
        subst h1 h2 h3
        exact ⟨h.p, by show (t.erases.set _ _).length = _; rw [List.length_set]; exact h.e, h.b, h.g, by omega, Nat.zero_le _⟩
      · cases hs
    · cases hs
theorem Shp.smol {c : Cfg} {t : St} {pg cl : Nat} (h : Shp c t pg cl) (hm : c.may = 0) : Smol t := by
  obtain ⟨_, a1, a2, a3, _, a5⟩ := cfg_small hm
  exact ⟨by rw [h.p]; exact a3, by rw [h.e]; exact a3, by rw [h.b]; exact a5, fun p hp => by rw [h.g p hp]; exact ⟨a1, a2⟩⟩
/-- How far the reader has come. -/
def Pro (N R : Nat) (ls : List (List By)) (i : Nat) (W : World) : Prop :=
  (i = 0 ∧ Row W R 61 (rd0 0) ∧ N ≤ W.heap.size) ∨
  (i = 1 ∧ ∃ L1 c pB eB bB ps, ls[0]? = some L1 ∧ cfC L1 = some c ∧ c.may = 0 ∧ RdM N R 1 c (freshC c) pB eB bB ps 0 0 W) ∨
  (2 ≤ i ∧ ∃ L1 L2 c v t pg cl pB eB bB ps, ls[0]? = some L1 ∧ cfC L1 = some c ∧ c.may = 0 ∧ ls[1]? = some L2 ∧ blownC (Nb c) L2 = some v ∧ RdM N R i c t pB eB bB ps pg cl W ∧ Shp c t pg cl ∧ runC (Cc c) (Mm c) (ls.drop 2) (st2 c v) 0 0 2 = runC (Cc c) (Mm c) (ls.drop i) t pg cl i)
theorem fresh_blown (c : Cfg) : (freshC c).blown = marks (Nb c) [] := (marks_nil _).symm
/-- A line is taken. -/
theorem take_step (N R : Nat) (T : List By) (ls : List (List By)) (i : Nat) (L : List By) (W : World) (hls : splitL T = ls) (hT : T.length ≤ 140737488355328) (hL : ls[i]? = some L) (hp : Pro N R ls i W) :
    Calls Tryd.prog 44 #[.pointer (some ⟨R, 0, none⟩), .string (strOf L)] (W.setCell ⟨R, 0, none⟩ (.int .i64 ((i + 1 : Nat) : Int))) fun e W' => BX N R W W' ∧ ((e = .returned (.tuple #[]) ∧ Pro N R ls (i + 1) W') ∨ (∃ k ln, e = pan k ∧ codeP T = .error (k, ln) ∧ LnAt R ln W')) := by
  have hLl : L.length ≤ 140737488355328 := by
    have hm : L ∈ splitL T := by rw [hls]; exact List.mem_of_getElem? hL
    exact Nat.le_trans (splitF_len _ _ _ hm) hT
  have b0 : BX N R W (W.setCell ⟨R, 0, none⟩ (.int .i64 ((i + 1 : Nat) : Int))) := (BX.refl _).but (SameBut.setCell _ _ _ _) (.inl rfl)
  rcases hp with ⟨rfl, hr, hN⟩ | ⟨rfl, L1, c, pB, eB, bB, ps, h0, hc, hm, hM⟩ | ⟨h2, L1, L2, c, v, t, pg, cl, pB, eB, bB, ps, h0, hc, hm, h1, hb, hM, hS, hR⟩
  · have hr1 : Row (W.setCell ⟨R, 0, none⟩ (.int .i64 ((0 + 1 : Nat) : Int))) R 61 (rd0 1) := hr.set 0 _
    refine (take1_any N R L hLl _ hr1 (by rw [(SameBut.setCell _ _ _ _).size]; exact hN)).mono ?_
    intro e W' h
    unfold TkC at h
    cases hcf : cfC L with
    | none =>
      rw [hcf] at h
      obtain ⟨h1, h2, h3⟩ := h
      exact ⟨b0.trans h3, .inr ⟨5, 1, h1, cp1 hls hL hcf, h2⟩⟩
    | some c =>
      rw [hcf] at h
      dsimp only at h
      by_cases hm : c.may = 0
      · rw [if_pos hm] at h
        obtain ⟨h1, h2, pB, eB, bB, ps, h3⟩ := h
        exact ⟨b0.trans h2, .inl ⟨h1, .inr (.inl ⟨rfl, L, c, pB, eB, bB, ps, hL, hcf, hm, h3⟩)⟩⟩
      · rw [if_neg hm] at h
        obtain ⟨h1, h2, h3⟩ := h
        exact ⟨b0.trans h3, .inr ⟨1, 1, h1, cp1b hls hL hcf hm, h2⟩⟩
  · refine (take2_any N R (Nb c) c (freshC c) pB eB bB ps 0 0 L hLl (by have := (cfg_small hm).2.2.2.2.2; omega) (fresh_blown c) _ (hM.setLn 2)).mono ?_
    intro e W' h
    unfold TkB at h
    cases hbb : blownC (Nb c) L with
    | none =>
      rw [hbb] at h
      obtain ⟨h1, h2, h3⟩ := h
      exact ⟨b0.trans h3, .inr ⟨5, 2, h1, cp2 hls h0 hc hm hL hbb, h2⟩⟩
    | some v =>
      rw [hbb] at h
      obtain ⟨h1, h2, h3⟩ := h
      exact ⟨b0.trans h2, .inl ⟨h1, .inr (.inr ⟨Nat.le_refl _, L1, L, c, v, st2 c v, 0, 0, pB, eB, bB, ps, h0, hc, hm, hL, hbb, h3, shp_fresh c v, rfl⟩)⟩⟩
  · obtain ⟨k1, k2, k3, k4, k5, k6⟩ := cfg_small hm
    have hil : i < ls.length := (List.getElem?_eq_some_iff.1 hL).1
    have hdr : ls.drop i = L :: ls.drop (i + 1) := by
      rw [List.drop_eq_getElem_cons hil]
      rw [List.getElem?_eq_getElem hil] at hL
      injection hL with hL
      rw [hL]
    refine (take3_any N R (i + 1) (Cc c) (Mm c) c t pB eB bB ps pg cl L (by omega) hLl k1 (by omega) (by omega) hS.p hS.e hS.pg (by have := hS.cl; omega) hS.g _ (hM.setLn (i + 1))).mono ?_
    intro e W' h
    unfold TkS at h
    cases hst : stepC (Cc c) (Mm c) L t pg cl with
    | none =>
      rw [hst] at h
      obtain ⟨h1, h2, h3⟩ := h
      refine ⟨b0.trans h3, .inr ⟨5, i + 1, h1, ?_, h2⟩⟩
      rw [cp3 hls h0 hc hm ‹ls[1]? = some L2› hb, hR, hdr, runC, hst]
    | some q =>
      obtain ⟨t2, pg2, cl2⟩ := q
      rw [hst] at h
      obtain ⟨h1', h2', h3'⟩ := h
      refine ⟨b0.trans h2', .inl ⟨h1', .inr (.inr ⟨by omega, L1, L2, c, v, t2, pg2, cl2, pB, eB, bB, ps, h0, hc, hm, h1, hb, h3', shp_step hS hst, ?_⟩)⟩⟩
      rw [hR, hdr, runC, hst]
end Go.Proofs.YtgpnbiaghokjkaaDoor

/-! Layer 21, the landed code: a round of read's loop. -/
namespace Go.Proofs.YtgpnbiaghokjkaaDoor
open Go.RowKit
set_option linter.unusedVariables false
set_option linter.unusedSimpArgs false
set_option maxRecDepth 100000

theorem lines_any (T : ByteArray) (w : World) : Calls Tryd.prog 43 #[.string T] w fun e w' => e = .returned (.func (.func 56) #[] #[.pointer (some ⟨w.heap.size, 0, none⟩)]) ∧ w' = w.alloc (.cells #[.string T] 9) := by
  have hmf : ∀ (fn : Fn) (first cap : Array Value) (w : World), (Instr.makeFunc fn first cap).run Tryd.prog w = .ok (.func fn first cap) w := fun _ _ _ _ => rfl
  go_enter Tryd.func43, Tryd.ntmps43
  go_wp2
  go_ret
  exact ⟨rfl, rfl⟩
/-- The code of a range over a function: the assignment, the body. -/
def rfOf21 : Code → Option (Code × Code)
  | .rangeFunc _ _ a b => some (a, b)
  | .seq a b => (rfOf21 a).orElse fun _ => rfOf21 b
  | .block _ c => rfOf21 c
  | _ => none
theorem blk_in {w : World} {k : Nat} {o : Obj} (h : w.heap[k]? = some o) : k < w.heap.size := (Array.getElem?_eq_some_iff.1 h).1
theorem putObj_same (w : World) (l : Nat) (o : Obj) : SameBut l w (w.putObj l o) := ⟨rfl, rfl, rfl, by simp [World.putObj], fun k hk => World.putObj_heap_other hk⟩
theorem RdM.off {N R ln : Nat} {c : Cfg} {t : St} {pB eB bB : Nat} {ps : List (Nat × Nat)} {pg cl : Nat} {W W' : World} {l : Nat} (h : RdM N R ln c t pB eB bB ps pg cl W) (hs : SameBut l W W') (hl : l < N) (hR : l ≠ R) : RdM N R ln c t pB eB bB ps pg cl W' :=
  ⟨h.row.but hs (Ne.symm hR), h.own.keep fun b hb => hs.block b (by have := h.own.lo b hb; omega), h.h8, by rw [hs.size]; exact h.sz⟩
theorem Pro.off {N R : Nat} {ls : List (List By)} {i : Nat} {W W' : World} {l : Nat} (h : Pro N R ls i W) (hs : SameBut l W W') (hl : l < N) (hR : l ≠ R) : Pro N R ls i W' := by
  rcases h with ⟨e, hr, hN⟩ | ⟨e, L1, c, pB, eB, bB, ps, h0, hc, hm, hM⟩ | ⟨h2, L1, L2, c, v, t, pg, cl, pB, eB, bB, ps, h0, hc, hm, h1, hb, hM, hS, hR'⟩
  · exact .inl ⟨e, hr.but hs (Ne.symm hR), by rw [hs.size]; exact hN⟩
  · exact .inr (.inl ⟨e, L1, c, pB, eB, bB, ps, h0, hc, hm, hM.off hs hl hR⟩)
  · exact .inr (.inr ⟨h2, L1, L2, c, v, t, pg, cl, pB, eB, bB, ps, h0, hc, hm, h1, hb, hM.off hs hl hR, hS, hR'⟩)
theorem Pro.ln {N R : Nat} {ls : List (List By)} {i : Nat} {W : World} (h : Pro N R ls i W) : W.cell? ⟨R, 0, none⟩ = some (.int .i64 (i : Int)) ∧ (∀ o, W.frozen? ⟨R, o, none⟩ = false) ∧ N ≤ W.heap.size := by
  rcases h with ⟨rfl, hr, hN⟩ | ⟨rfl, L1, c, pB, eB, bB, ps, h0, hc, hm, hM⟩ | ⟨h2, L1, L2, c, v, t, pg, cl, pB, eB, bB, ps, h0, hc, hm, h1, hb, hM, hS, hR'⟩
  · exact ⟨hr.cell 0 _ rfl, fun o => hr.frozen o, hN⟩
  · exact ⟨hM.c0, fun o => hM.row.frozen o, hM.sz⟩
  · exact ⟨hM.c0, fun o => hM.row.frozen o, hM.sz⟩
/-- Between two rounds. -/
def JD (N R : Nat) (ls : List (List By)) (w5 : World) (i : Nat) (W : World) : Prop := BX N R w5 W ∧ Pro N R ls i W
/-- Where a round has panicked. -/
def PD (N0 R D : Nat) (T : List By) (w0 : World) (e : Ending) (W : World) : Prop := ∃ k ln, e = pan k ∧ codeP T = .error (k, ln) ∧ LnAt R ln W ∧ BX N0 R w0 W ∧ W.heap[D]? = some (.deferred (some []))
set_option maxHeartbeats 2000000 in
theorem dround (m : Nat) (w0 w5 : World) (N0 N R B0 D l : Nat) (r : Loop) (T : List By) (ls : List (List By)) (hls : splitL T = ls) (hT : T.length ≤ 140737488355328) (hst : r.state = .ready) (hpd : r.pending = none) (hfn : ∃ g, Tryd.prog.funcs[r.fn]? = some g)
    (hL5 : w5.heap[l]? = some (.loop r)) (hD5 : w5.heap[D]? = some (.deferred (some []))) (hB5 : Row w5 B0 59 [.pointer (some ⟨R, 0, none⟩)]) (hl : l < N) (hD : D < N) (hB : B0 < N) (d1 : l ≠ R) (d2 : D ≠ R) (d3 : B0 ≠ R) (d4 : l ≠ D) (d5 : l ≠ B0) (hN0 : N0 ≤ N) (hl0 : N0 ≤ l) (hbx : BX N0 R w0 w5)
    (i : Nat) (L : List By) (W : World) (hLi : ls[i]? = some L) (hJ : JD N R ls w5 i W) (v0 v1 v3 v4 v5 v6 v8 v9 v10 v11 v12 v13 v14 v15 v16 v17 v18 v19 v20 v21 v22 v23 v24 v25 v26 : Value) (ca cb : Code) (hc : rfOf21 (Tryd.f28.body.getD .skip) = some (ca, cb)) :
    RoundIn Fence.wide m Tryd.prog l r.fn #[v0, v1, .pointer (some ⟨B0, 0, none⟩), v3, v4, v5, v6, .string (strOf L), v8, v9, v10, v11, v12, v13, v14, v15, v16, v17, v18, v19, v20, v21, v22, v23, v24, v25, v26] ca cb W
      fun e W' => (e = .returned (.bool true) ∧ JD N R ls w5 (i + 1) W') ∨ ((∃ k, e = pan k) ∧ PD N0 R D T w0 e W') := by
  obtain ⟨hbW, hpro⟩ := hJ
  have hLW : W.heap[l]? = some (.loop r) := (hbW.block l hl d1).trans hL5
  refine round_of hfn ?_
  injection hc with hc
  injection hc with hc1 hc2
  subst hc1 hc2
  gi_wp2_with (rw [Oper.semAt_eq _ _ _ (fun c h => by cases h)]; go_simp; try go_bits)
  refine ⟨_, run_beginRound (P := Tryd.prog) hLW hst, ?_⟩
  obtain ⟨W2, hW2⟩ : ∃ W2, W2 = W.putObj l (.loop { r with state := .busy }) := ⟨_, rfl⟩
  have s2 : SameBut l W W2 := by rw [hW2]; exact putObj_same _ _ _
  have hllt : l < W.heap.size := blk_in hLW
  have L2 : W2.heap[l]? = some (.loop { r with state := .busy }) := by rw [hW2]; exact World.putObj_heap_same hllt
  rw [← hW2]
  clear hW2
  have hp2 : Pro N R ls i W2 := hpro.off s2 hl d1
  have cB : W2.cell? ⟨B0, 0, none⟩ = some (.pointer (some ⟨R, 0, none⟩)) := by
    have h1 : Row W B0 59 [.pointer (some ⟨R, 0, none⟩)] := (hbW.block B0 hB d3).trans hB5
    exact (h1.but s2 (Ne.symm d5)).cell 0 _ rfl
  have cB3 : (W2.setCell ⟨R, 0, none⟩ (.int .i64 ((i + 1 : Nat) : Int))).cell? ⟨B0, 0, none⟩ = some (.pointer (some ⟨R, 0, none⟩)) := by
    have h1 : Row W B0 59 [.pointer (some ⟨R, 0, none⟩)] := (hbW.block B0 hB d3).trans hB5
    exact ((h1.but s2 (Ne.symm d5)).but (SameBut.setCell _ _ _ _) d3).cell 0 _ rfl
  obtain ⟨cR, fR, _⟩ := hp2.ln
  have hil : i < ls.length := (List.getElem?_eq_some_iff.1 hLi).1
  have hmany : ls.length ≤ T.length := by rw [← hls]; exact splitF_many _ _
  have wk : IntKind.i64.wrap ((i : Int) + 1) = ((i + 1 : Nat) : Int) := by rw [i64_in _ (by omega) (by omega)]; omega
  have HTK : Hid (Calls Tryd.prog 44 #[.pointer (some ⟨R, 0, none⟩), .string (strOf L)] (W2.setCell ⟨R, 0, none⟩ (.int .i64 ((i + 1 : Nat) : Int))) fun e W' => BX N R W2 W' ∧ ((e = .returned (.tuple #[]) ∧ Pro N R ls (i + 1) W') ∨ (∃ k ln, e = pan k ∧ codeP T = .error (k, ln) ∧ LnAt R ln W'))) := take_step N R T ls i L W2 hls hT hLi hp2
  have HS2 : Hid (SameBut l W W2) := s2
  have HL2 : Hid (W2.heap[l]? = some (.loop { r with state := .busy })) := L2
  have HBW : Hid (BX N R w5 W) := hbW
  have hdr : ¬ B0 = R := d3
  have hdr' : ¬ R = B0 := fun e => d3 e.symm
  have fr0 := fR 0
  clear hp2 hpro hLW s2 L2 hbW hLi hls hmany hil hT fR
  generalize hSL : strOf L = SL at *
  clear hSL
  rw [show ((i + 1 : Nat) : Int) = (i : Int) + 1 by omega] at HTK
  gi_wp2_with (rw [Oper.semAt_eq _ _ _ (fun c h => by cases h)]; go_simp; try go_bits)
  refine ⟨trivial, fun h => absurd h (by decide), (CallsIn.inRound l ((callsIn_wide (n := m - 1)).2 HTK.out)).mono ?_⟩
  rintro e W3 ⟨hb3, h3⟩
  have L3 : W3.heap[l]? = some (.loop { r with state := .busy }) := (hb3.block l hl d1).trans HL2.out
  rcases h3 with ⟨rfl, hp3⟩ | ⟨k, ln, rfl, hk, hln⟩
  · dsimp only
    have HP3 : Hid (Pro N R ls (i + 1) W3) := hp3
    have HB3 : Hid (BX N R W2 W3) := hb3
    have HL3 : Hid (W3.heap[l]? = some (.loop { r with state := .busy })) := L3
    clear hp3 hb3 L3 HTK
    gi_wp2
    have er : ({ { r with state := .busy } with state := if (none : Option Code).isNone then .ready else .done, pending := none } : Loop) = r := by
      cases r
      simp at hst hpd
      subst hst hpd
      rfl
    have e4 := run_endRound (P := Tryd.prog) none HL3.out
    rw [er] at e4
    have s4 := putObj_same W3 l (.loop r)
    have L4 : (W3.putObj l (.loop r)).heap[l]? = some (.loop r) := World.putObj_heap_same (blk_in HL3.out)
    refine ⟨_, _, e4, .inl ⟨rfl, ⟨s4.os.trans (HB3.out.os.trans (HS2.out.os.trans HBW.out.os)), s4.tape.trans (HB3.out.tape.trans (HS2.out.tape.trans HBW.out.tape)), s4.output.trans (HB3.out.output.trans (HS2.out.output.trans HBW.out.output)), ?_, fun k hk hn => ?_⟩, HP3.out.off s4 hl d1⟩⟩
    · rw [s4.size]
      have h1 := HBW.out.size
      have h2 := HS2.out.size
      have h3 := HB3.out.size
      omega
    · by_cases hkl : k = l
      · subst hkl
        rw [L4, hL5]
      · exact (s4.block k hkl).trans ((HB3.out.block k hk hn).trans ((HS2.out.block k hkl).trans (HBW.out.block k hk hn)))
  · have hbN : BX N0 R w0 W3 := by
      refine ⟨hb3.os.trans (HS2.out.os.trans (HBW.out.os.trans hbx.os)), hb3.tape.trans (HS2.out.tape.trans (HBW.out.tape.trans hbx.tape)), hb3.output.trans (HS2.out.output.trans (HBW.out.output.trans hbx.output)), ?_, fun k hk hn => ?_⟩
      · have h1 := hbx.size
        have h2 := HBW.out.size
        have h3 := HS2.out.size
        have h4 := hb3.size
        omega
      · exact (hb3.block k (by omega) hn).trans ((HS2.out.block k (by omega)).trans ((HBW.out.block k (by omega) hn).trans (hbx.block k hk hn)))
    have hD3 : W3.heap[D]? = some (.deferred (some [])) := (hb3.block D hD d2).trans ((HS2.out.block D (Ne.symm d4)).trans ((HBW.out.block D hD d2).trans hD5))
    exact ⟨rfl, .inr ⟨⟨k, rfl⟩, k, ln, rfl, hk, hln, hbN, hD3⟩⟩
end Go.Proofs.YtgpnbiaghokjkaaDoor
