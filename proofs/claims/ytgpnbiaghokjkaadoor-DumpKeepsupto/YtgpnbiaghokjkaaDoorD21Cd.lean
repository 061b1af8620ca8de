import Derived.Test.YtgpnbiaghokjkaaDoorD21TB
import Derived.Test.YtgpnbiaghokjkaaDoorD21P7
/-! Layer 21, the landed code: Parse. (Printed by tools/genc21.py.) -/
namespace Go.Proofs.YtgpnbiaghokjkaaDoor
open Go.RowKit
set_option linter.unusedVariables false
set_option linter.unusedSimpArgs false
set_option maxRecDepth 100000

theorem loadErr (w : World) (g : Nat) (k : Int) (h : w.cell? ⟨g, 0, none⟩ = some (.int .i64 k)) : (loadVar 30 ⟨g, 0, none⟩).run Tryd.prog w = .ok (.int .i64 k) w := by simp [go_sem, h]
theorem loadInt (w : World) (g : Nat) (k : Int) (h : w.cell? ⟨g, 0, none⟩ = some (.int .i64 k)) : (loadVar 3 ⟨g, 0, none⟩).run Tryd.prog w = .ok (.int .i64 k) w := by simp [go_sem, h]
theorem results_p4 {fn : Func} {p q r s : Tmp} (h : fn.results = #[.cell p 24, .cell q 29, .cell r 30, .cell s 3]) (tmps : Array Value) (w : World) (g1 g2 g3 g4 : Nat) (xs ys : List Value) (k l : Int)
    (hp : tmps.getD p undef = .pointer (some ⟨g1, 0, none⟩)) (hq : tmps.getD q undef = .pointer (some ⟨g2, 0, none⟩)) (hr : tmps.getD r undef = .pointer (some ⟨g3, 0, none⟩)) (hs : tmps.getD s undef = .pointer (some ⟨g4, 0, none⟩))
    (hr1 : Row w g1 24 xs) (hr2 : Row w g2 29 ys) (lx : xs.length = 7) (ly : ys.length = 3) (h3 : w.cell? ⟨g3, 0, none⟩ = some (.int .i64 k)) (h4 : w.cell? ⟨g4, 0, none⟩ = some (.int .i64 l)) :
    (results fn tmps).run Tryd.prog w = .ok (.tuple #[.agg xs.toArray, .agg ys.toArray, .int .i64 k, .int .i64 l]) w := by
  have hl1 := run_loadVar_mid (P := Tryd.prog) w g1 0 24 xs _ (rng0 hr1) Tryd.underlying24 rfl (by rw [lx]; kernel_rfl)
  have hl2 := run_loadVar_mid (P := Tryd.prog) w g2 0 29 ys _ (rng0 hr2) Tryd.underlying29 rfl (by rw [ly]; kernel_rfl)
  have hl3 := loadErr w g3 k h3
  have hl4 := loadInt w g4 l h4
  rw [Array.getD_eq_getD_getElem?] at hp hq hr hs
  simp only [results, h]
  simp [Sem.run_bind, Result.andThen, asAddr, hp, hq, hr, hs, hl1, hl2, hl3, hl4]
/-- Around the stores of the four results. -/
structure P4 (W1 : World) (B : Nat) (cs xs : List Value) (l2 l3 l4 l5 : Bool) (W : World) : Prop where
  kept : KeptL [B, B + 1, B + 2, B + 3] W1 W
  r2 : ∃ old, Row W B 24 old ∧ old.length = 7 ∧ (l2 = true → old = cs)
  r3 : ∃ old, Row W (B + 1) 29 old ∧ old.length = 3 ∧ (l3 = true → old = xs)
  r4 : ∃ v, Row W (B + 2) 30 [v] ∧ (l4 = true → v = .int .i64 0)
  r5 : ∃ v, Row W (B + 3) 3 [v] ∧ (l5 = true → v = .int .i64 0)
section
variable {W1 : World} {B : Nat} {cs xs : List Value} {l2 l3 l4 l5 : Bool} {W W2 : World}
theorem P4.zero (o2 o3 : List Value) (v4 v5 : Value) (h2 : Row W1 B 24 o2) (e2 : o2.length = 7) (h3 : Row W1 (B + 1) 29 o3) (e3 : o3.length = 3) (h4 : Row W1 (B + 2) 30 [v4]) (h5 : Row W1 (B + 3) 3 [v5]) : P4 W1 B cs xs false false false false W1.drew :=
  ⟨(KeptL.refl _ _).dr ⟨1, rfl⟩, ⟨o2, h2, e2, fun e => (by cases e)⟩, ⟨o3, h3, e3, fun e => (by cases e)⟩, ⟨v4, h4, fun e => (by cases e)⟩, ⟨v5, h5, fun e => (by cases e)⟩⟩
theorem P4.st2 (h : P4 W1 B cs xs l2 l3 l4 l5 W) (hr : Row W2 B 24 cs) (hs : SameBut B W W2) (lc : cs.length = 7) : P4 W1 B cs xs true l3 l4 l5 W2 := by
  obtain ⟨o3, a3, b3, c3⟩ := h.r3
  obtain ⟨v4, a4, c4⟩ := h.r4
  obtain ⟨v5, a5, c5⟩ := h.r5
  exact ⟨h.kept.but hs (.inl (by simp)), ⟨cs, hr, lc, fun _ => rfl⟩, ⟨o3, a3.but hs (by omega), b3, c3⟩, ⟨v4, a4.but hs (by omega), c4⟩, ⟨v5, a5.but hs (by omega), c5⟩⟩
theorem P4.st3 (h : P4 W1 B cs xs l2 l3 l4 l5 W) (hr : Row W2 (B + 1) 29 xs) (hs : SameBut (B + 1) W W2) (lx : xs.length = 3) : P4 W1 B cs xs l2 true l4 l5 W2 := by
  obtain ⟨o2, a2, b2, c2⟩ := h.r2
  obtain ⟨v4, a4, c4⟩ := h.r4
  obtain ⟨v5, a5, c5⟩ := h.r5
  exact ⟨h.kept.but hs (.inl (by simp)), ⟨o2, a2.but hs (by omega), b2, c2⟩, ⟨xs, hr, lx, fun _ => rfl⟩, ⟨v4, a4.but hs (by omega), c4⟩, ⟨v5, a5.but hs (by omega), c5⟩⟩
theorem P4.st4 (h : P4 W1 B cs xs l2 l3 l4 l5 W) : P4 W1 B cs xs l2 l3 true l5 (W.setCell ⟨B + 2, 0, none⟩ (.int .i64 0)) := by
  obtain ⟨o2, a2, b2, c2⟩ := h.r2
  obtain ⟨o3, a3, b3, c3⟩ := h.r3
  obtain ⟨v4, a4, c4⟩ := h.r4
  obtain ⟨v5, a5, c5⟩ := h.r5
  have hs := SameBut.setCell (B + 2) 0 (.int .i64 0) W
  exact ⟨h.kept.but hs (.inl (by simp)), ⟨o2, a2.but hs (by omega), b2, c2⟩, ⟨o3, a3.but hs (by omega), b3, c3⟩, ⟨_, a4.set 0 (.int .i64 0), fun _ => rfl⟩, ⟨v5, a5.but hs (by omega), c5⟩⟩
theorem P4.st5 (h : P4 W1 B cs xs l2 l3 l4 l5 W) : P4 W1 B cs xs l2 l3 l4 true (W.setCell ⟨B + 3, 0, none⟩ (.int .i64 0)) := by
  obtain ⟨o2, a2, b2, c2⟩ := h.r2
  obtain ⟨o3, a3, b3, c3⟩ := h.r3
  obtain ⟨v4, a4, c4⟩ := h.r4
  obtain ⟨v5, a5, c5⟩ := h.r5
  have hs := SameBut.setCell (B + 3) 0 (.int .i64 0) W
  exact ⟨h.kept.but hs (.inl (by simp)), ⟨o2, a2.but hs (by omega), b2, c2⟩, ⟨o3, a3.but hs (by omega), b3, c3⟩, ⟨v4, a4.but hs (by omega), c4⟩, ⟨_, a5.set 0 (.int .i64 0), fun _ => rfl⟩⟩
end
theorem tld0 (N M : Nat) (w : World) (h : M ≤ w.heap.size) : Tld N M w sv0 st0 [] :=
  ⟨⟨rfl, .inl ⟨rfl, rfl⟩⟩, fun i x g hx => (by cases hx), ⟨rfl, .inl ⟨rfl, rfl⟩⟩, ⟨rfl, .inl ⟨rfl, rfl⟩⟩, fun g hg => (by cases hg), fun i j B n c n' c' _ h1 => (by cases h1), h, fun B hB => (by cases hB), fun B hB => (by cases hB), fun B hB => (by cases hB), fun j B n c hq => (by cases hq)⟩
theorem own_lo {N N' e size n : Nat} {w : World} {v : Value} {xs : List Value} (h : w.ownsRow N e size v n xs) (hN : N' ≤ N) : w.ownsRow N' e size v n xs := by
  refine ⟨h.1, ?_⟩
  rcases h.2 with h1 | ⟨g, c, cur, e, hg, hh, hr⟩
  · exact .inl h1
  · exact .inr ⟨g, c, cur, e, Nat.le_trans hN hg, hh, hr⟩
theorem tld_base {N N' M : Nat} {w : World} {v : SV} {t : St} {qs : List Value} (h : Tld N M w v t qs) (hN : N' ≤ N) : Tld N' M w v t qs :=
  ⟨own_lo h.pr hN, fun i x g hx hg => by
    obtain ⟨h1, h2, h3⟩ := h.pg i x g hx hg
    exact ⟨own_lo h1 hN, Nat.le_trans hN h2, h3⟩, own_lo h.er hN, own_lo h.bl hN, h.ne, h.qq, h.up, h.upp, h.upe, h.upb, h.upq⟩
/-- What stands ahead of read. -/
structure P0 (w W : World) : Prop where
  bel : Below w.heap.size w W
  sz : W.heap.size = w.heap.size + 6
  r2 : Row W w.heap.size 24 [.int .i64 0, .int .i64 0, .int .i64 0, .int .i64 0, .int .i64 0, .int .i64 0, .int .i64 0]
  r3 : Row W (w.heap.size + 1) 29 [nilS, nilS, nilS]
  r4 : Row W (w.heap.size + 2) 30 [.int .i64 0]
  r5 : Row W (w.heap.size + 3) 3 [.int .i64 0]
  rd : Row W (w.heap.size + 4) 61 (rd0 0)
  ra : Row W (w.heap.size + 5) 59 [.pointer (some ⟨w.heap.size + 4, 0, none⟩)]
structure Pa4 (W1 : World) (B R : Nat) (cs xs : List Value) (DF : List Deferred) (L : Nat → Bool) (x13 x14 x15 x16 x17 x18 x19 x20 : Value) (W : World) : Prop where
  x : P4 W1 B cs xs (L 8) (L 9) (L 10) (L 11) W
  p0 : L 0 = true → x13 = .pointer (some ⟨R, 0, none⟩)
  p1 : L 1 = true → x14 = .pointer (some ⟨R, 0, none⟩)
  p2 : L 2 = true → x15 = .pointer (some ⟨R, 1, none⟩)
  p3 : L 3 = true → x16 = .agg cs.toArray
  p4 : L 4 = true → x17 = .pointer (some ⟨R, 0, none⟩)
  p5 : L 5 = true → x18 = .pointer (some ⟨R, 0, none⟩)
  p6 : L 6 = true → x19 = .pointer (some ⟨R, 8, none⟩)
  p7 : L 7 = true → x20 = .agg xs.toArray
section
variable {W1 : World} {B R : Nat} {cs xs : List Value} {DF : List Deferred} {L : Nat → Bool} {x13 x14 x15 x16 x17 x18 x19 x20 : Value} {W W2 : World}
end
@[reducible] def IPa4 (W1 : World) (B R : Nat) (cs xs : List Value) (DF : List Deferred) (y0 y1 y2 y3 y4 y5 y6 y7 y8 y9 y10 y11 y12 : Value) : (Nat → Bool) → Act → World → Prop := fun L a W => ∃ x13 x14 x15 x16 x17 x18 x19 x20, a = ⟨#[y0, y1, y2, y3, y4, y5, y6, y7, y8, y9, y10, y11, y12, x13, x14, x15, x16, x17, x18, x19, x20], DF⟩ ∧ Pa4 W1 B R cs xs DF L x13 x14 x15 x16 x17 x18 x19 x20 W
set_option maxHeartbeats 8000000 in
theorem parse_own (T : List By) (hT : T.length ≤ 140737488355328) (w : World) : Calls Tryd.prog 12 #[.string (strOf T)] w (ParO T w) := by
  have hmf : ∀ (fn : Fn) (first cap : Array Value) (w : World), (Instr.makeFunc fn first cap).run Tryd.prog w = .ok (.func fn first cap) w := fun _ _ _ _ => rfl
  have hzr : ∀ w : World, (zeroValue 61).run Tryd.prog w = .ok (.agg (rd0 0).toArray) w := fun _ => by kernel_rfl
  obtain ⟨W1, hW1⟩ : ∃ W1, W1 = (((((w.alloc (.cells #[.int .i64 0, .int .i64 0, .int .i64 0, .int .i64 0, .int .i64 0, .int .i64 0, .int .i64 0] 24)).alloc (.cells #[.slice none 0 0, .slice none 0 0, .slice none 0 0] 29)).alloc (.cells #[.int .i64 0] 30)).alloc (.cells #[.int .i64 0] 3)).alloc (.cells (rd0 0).toArray 61)).alloc (.cells #[.pointer (some ⟨w.heap.size + 4, 0, none⟩)] 59) := ⟨_, rfl⟩
  have h0 : P0 w W1 := by
    have q2 : Row (w.alloc (.cells #[.int .i64 0, .int .i64 0, .int .i64 0, .int .i64 0, .int .i64 0, .int .i64 0, .int .i64 0] 24)) w.heap.size 24 [.int .i64 0, .int .i64 0, .int .i64 0, .int .i64 0, .int .i64 0, .int .i64 0, .int .i64 0] := Row.at w _ _ _ _ rfl rfl
    rw [hW1]
    refine ⟨?_, by simp, ((((q2.alloc _).alloc _).alloc _).alloc _).alloc _, ?_, ?_, ?_, ?_, ?_⟩
    · exact (((((((Below.refl _ _).alloc (Nat.le_refl _) _).alloc (by simp) _).alloc (by simp; omega) _).alloc (by simp; omega) _).alloc (by simp; omega) _).alloc (by simp; omega) _)
    · exact ((((Row.at _ _ _ _ _ (by simp) rfl : Row _ (w.heap.size + 1) _ _).alloc _).alloc _).alloc _).alloc _
    · exact (((Row.at _ _ _ _ _ (by simp) rfl : Row _ (w.heap.size + 2) _ _).alloc _).alloc _).alloc _
    · exact ((Row.at _ _ _ _ _ (by simp) rfl : Row _ (w.heap.size + 3) _ _).alloc _).alloc _
    · exact (Row.at _ _ _ _ _ (by simp) rfl : Row _ (w.heap.size + 4) _ _).alloc _
    · exact Row.at _ _ _ _ _ (by simp) rfl
  have HRD : Hid (Calls Tryd.prog 28 #[.pointer (some ⟨w.heap.size + 4, 0, none⟩), .string (strOf T)] W1 (RdP (w.heap.size + 4) T W1)) := read_any (w.heap.size + 4) T hT W1 h0.rd
  have H0 : Hid (P0 w W1) := h0
  clear h0
  have HCP : Hid (codeP T = parseL T) := codeP_eq T
  obtain ⟨ST, hST⟩ : ∃ ST, strOf T = ST := ⟨_, rfl⟩
  rw [hST] at HRD ⊢
  clear hST
  go_enter_defers Tryd.func12, Tryd.ntmps12
  have HW1 : Hid (W1 = (((((w.alloc (.cells #[.int .i64 0, .int .i64 0, .int .i64 0, .int .i64 0, .int .i64 0, .int .i64 0, .int .i64 0] 24)).alloc (.cells #[.slice none 0 0, .slice none 0 0, .slice none 0 0] 29)).alloc (.cells #[.int .i64 0] 30)).alloc (.cells #[.int .i64 0] 3)).alloc (.cells (rd0 0).toArray 61)).alloc (.cells #[.pointer (some ⟨w.heap.size + 4, 0, none⟩)] 59)) := hW1
  clear hW1
  go_wp2_with fail
  simp only [Nat.add_assoc, Nat.reduceAdd]
  rw [← HW1.out]
  refine HRD.out.mono ?_
  clear HRD HW1
  rintro e W6 ⟨hbx, h6⟩
  have hsz := H0.out.sz
  rw [hsz] at hbx
  have r2 := (hbx.block w.heap.size (by omega) (by omega)).trans H0.out.r2
  have r3 := (hbx.block (w.heap.size + 1) (by omega) (by omega)).trans H0.out.r3
  have r4 := (hbx.block (w.heap.size + 2) (by omega) (by omega)).trans H0.out.r4
  have r5 := (hbx.block (w.heap.size + 3) (by omega) (by omega)).trans H0.out.r5
  have ra := (hbx.block (w.heap.size + 5) (by omega) (by omega)).trans H0.out.ra
  have b6 : Below w.heap.size w W6 := ⟨hbx.os.trans H0.out.bel.os, hbx.tape.trans H0.out.bel.tape, hbx.output.trans H0.out.bel.output, Nat.le_trans H0.out.bel.size hbx.size, fun k hk => (hbx.block k (by omega) (by omega)).trans (H0.out.bel.block k hk)⟩
  have r2 : Row W6 w.heap.size 24 [.int .i64 0, .int .i64 0, .int .i64 0, .int .i64 0, .int .i64 0, .int .i64 0, .int .i64 0] := r2
  have r3 : Row W6 (w.heap.size + 1) 29 [nilS, nilS, nilS] := r3
  have r4 : Row W6 (w.heap.size + 2) 30 [.int .i64 0] := r4
  have r5 : Row W6 (w.heap.size + 3) 3 [.int .i64 0] := r5
  have ra : Row W6 (w.heap.size + 5) 59 [.pointer (some ⟨w.heap.size + 4, 0, none⟩)] := ra
  have hz6 : w.heap.size + 6 ≤ W6.heap.size := by have := hbx.size; omega
  rcases h6 with ⟨rfl, c, t, N, ln, pg, cl, pB, eB, bB, ps, hk, hN, hM, hsm⟩ | ⟨k, ln, rfl, hk, hln⟩
  · rw [HCP.out] at hk
    have hpr := parseR_ok hk
    obtain ⟨cs, hcs⟩ : ∃ cs, c.vals = cs := ⟨_, rfl⟩
    obtain ⟨xs, hxs⟩ : ∃ xs, ownVals t pB eB bB = xs := ⟨_, rfl⟩
    have lc : cs.length = 7 := by rw [← hcs]; rfl
    have lx : xs.length = 3 := by rw [← hxs]; rfl
    have oc : Hid (∀ v ∈ cs, v.oneCell' = true) := by show ∀ v ∈ cs, _; rw [← hcs]; exact vals_one c
    have ox : Hid (∀ v ∈ xs, v.oneCell' = true) := by show ∀ v ∈ xs, _; rw [← hxs]; exact own_one3 t pB eB bB
    have HRR : Hid (∀ W, KeptL [w.heap.size, w.heap.size + 1, w.heap.size + 2, w.heap.size + 3] W6 W → W.rangeAt (w.heap.size + 4) 1 cs ∧ W.rangeAt (w.heap.size + 4) 8 xs) := fun W hkp => by
      have hrow := hkp.row hM.row (by simp)
      rw [← hcs, ← hxs]
      exact ⟨hrow.range 1 7, hrow.range 8 3⟩
    have HCA : Hid (∀ W, KeptL [w.heap.size, w.heap.size + 1, w.heap.size + 2, w.heap.size + 3] W6 W → W.cell? ⟨w.heap.size + 5, 0, none⟩ = some (.pointer (some ⟨w.heap.size + 4, 0, none⟩))) := fun W hkp => (hkp.row ra (by simp)).cell 0 _ rfl
    have HR2 : Hid (Row W6 w.heap.size 24 [.int .i64 0, .int .i64 0, .int .i64 0, .int .i64 0, .int .i64 0, .int .i64 0, .int .i64 0]) := r2
    have HR3 : Hid (Row W6 (w.heap.size + 1) 29 [nilS, nilS, nilS]) := r3
    have HR4 : Hid (Row W6 (w.heap.size + 2) 30 [.int .i64 0]) := r4
    have HR5 : Hid (Row W6 (w.heap.size + 3) 3 [.int .i64 0]) := r5
    have HM : Hid (RdM N (w.heap.size + 4) ln c t pB eB bB ps pg cl W6) := hM
    have HSM : Hid (Smol t) := hsm
    have HB6 : Hid (Below w.heap.size w W6) := b6
    have HPR : Hid (parseR T = (c, t, 0, 0)) := hpr
    have HCS : Hid (c.vals = cs) := hcs
    have HXS : Hid (ownVals t pB eB bB = xs) := hxs
    have HNN : Hid (w.heap.size + 6 ≤ N) := by show _ ≤ N; rw [← hsz]; exact hN
    clear hbx hsz HCP H0 hzr r2 r3 r4 r5 ra b6 hM hsm hpr hcs hxs hk hN
    dsimp only
    go_wp2
    refine wp_region_inv (IPa4 W6 w.heap.size (w.heap.size + 4) cs xs _ _ _ _ _ _ _ _ _ _ _ _ _ _) (by kernel_rfl) (by kernel_rfl) ⟨_, _, _, _, _, _, _, _, rfl, ⟨P4.zero _ _ _ _ HR2.out rfl HR3.out rfl HR4.out HR5.out, fun k => (by cases k), fun k => (by cases k), fun k => (by cases k), fun k => (by cases k), fun k => (by cases k), fun k => (by cases k), fun k => (by cases k), fun k => (by cases k)⟩⟩ ?_ ?_
    · refine .cons ?_ (.cons ?_ (.cons ?_ (.cons ?_ (.cons ?_ (.cons ?_ (.cons ?_ (.cons ?_ (.cons ?_ (.cons ?_ (.cons ?_ (.cons ?_ .nil)))))))))))
      all_goals (rintro L _ W ⟨x13, x14, x15, x16, x17, x18, x19, x20, rfl, hI⟩ hL hd K hK)
      · rw [if_pos (by rfl)]
        have hc := HCA.out W hI.x.kept
        go_simp
        exact hK.out _ _ ⟨_, _, _, _, _, _, _, _, rfl, { hI with p0 := fun _ => rfl }⟩
      · obtain rfl := hI.p0 (hd 0 (by decide))
        rw [if_pos (by rfl)]
        go_simp
        exact hK.out _ _ ⟨_, _, _, _, _, _, _, _, rfl, { hI with p1 := fun _ => rfl }⟩
      · obtain rfl := hI.p1 (hd 1 (by decide))
        rw [if_pos (by rfl)]
        go_simp
        exact hK.out _ _ ⟨_, _, _, _, _, _, _, _, rfl, { hI with p2 := fun _ => rfl }⟩
      · obtain rfl := hI.p2 (hd 2 (by decide))
        refine step_load_rng' (by rfl) 24 _ rfl (w.heap.size + 4) 1 cs (HRR.out W hI.x.kept).1 rfl _ Tryd.underlying24 rfl (by rw [lc]; kernel_rfl) ?_
        exact hK.out _ _ ⟨_, _, _, _, _, _, _, _, rfl, { hI with p3 := fun _ => rfl }⟩
      · rw [if_pos (by rfl)]
        have hc := HCA.out W hI.x.kept
        go_simp
        exact hK.out _ _ ⟨_, _, _, _, _, _, _, _, rfl, { hI with p4 := fun _ => rfl }⟩
      · obtain rfl := hI.p4 (hd 4 (by decide))
        rw [if_pos (by rfl)]
        go_simp
        exact hK.out _ _ ⟨_, _, _, _, _, _, _, _, rfl, { hI with p5 := fun _ => rfl }⟩
      · obtain rfl := hI.p5 (hd 5 (by decide))
        rw [if_pos (by rfl)]
        go_simp
        exact hK.out _ _ ⟨_, _, _, _, _, _, _, _, rfl, { hI with p6 := fun _ => rfl }⟩
      · obtain rfl := hI.p6 (hd 6 (by decide))
        refine step_load_rng' (by rfl) 29 _ rfl (w.heap.size + 4) 8 xs (HRR.out W hI.x.kept).2 rfl _ Tryd.underlying29 rfl (by rw [lx]; kernel_rfl) ?_
        exact hK.out _ _ ⟨_, _, _, _, _, _, _, _, rfl, { hI with p7 := fun _ => rfl }⟩
      · obtain rfl := hI.p3 (hd 3 (by decide))
        obtain ⟨old, ro, lo, _⟩ := hI.x.r2
        refine step_store_Row rfl 24 _ _ rfl _ 24 old cs ro (by rw [lo]; exact lc) rfl rfl (by rw [lc]; kernel_rfl) oc.out ?_
        intro W2 hr2 hs2
        exact hK.out _ _ ⟨_, _, _, _, _, _, _, _, rfl, { hI with x := (hI.x.st2 hr2 hs2 lc) }⟩
      · obtain rfl := hI.p7 (hd 7 (by decide))
        obtain ⟨old, ro, lo, _⟩ := hI.x.r3
        refine step_store_Row rfl 29 _ _ rfl _ 29 old xs ro (by rw [lo]; exact lx) rfl rfl (by rw [lx]; kernel_rfl) ox.out ?_
        intro W2 hr2 hs2
        exact hK.out _ _ ⟨_, _, _, _, _, _, _, _, rfl, { hI with x := (hI.x.st3 hr2 hs2 lx) }⟩
      · obtain ⟨v, ro, _⟩ := hI.x.r4
        have hc := ro.cell 0 _ rfl
        have hf := ro.frozen 0
        rw [if_pos (by rfl)]
        go_simp
        have hX := hI.x.st4
        exact hK.out _ _ ⟨_, _, _, _, _, _, _, _, rfl, { hI with x := hX }⟩
      · obtain ⟨v, ro, _⟩ := hI.x.r5
        have hc := ro.cell 0 _ rfl
        have hf := ro.frozen 0
        rw [if_pos (by rfl)]
        go_simp
        have hX := hI.x.st5
        exact hK.out _ _ ⟨_, _, _, _, _, _, _, _, rfl, { hI with x := hX }⟩
    · rintro L _ W hall ⟨x13, x14, x15, x16, x17, x18, x19, x20, rfl, hI⟩
      obtain rfl := hI.p0 (hall 0 (by decide))
      obtain rfl := hI.p1 (hall 1 (by decide))
      obtain rfl := hI.p2 (hall 2 (by decide))
      obtain rfl := hI.p3 (hall 3 (by decide))
      obtain rfl := hI.p4 (hall 4 (by decide))
      obtain rfl := hI.p5 (hall 5 (by decide))
      obtain rfl := hI.p6 (hall 6 (by decide))
      obtain rfl := hI.p7 (hall 7 (by decide))
      have hXe := hI.x
      rw [hall 8 (by decide)] at hXe
      rw [hall 9 (by decide)] at hXe
      rw [hall 10 (by decide)] at hXe
      rw [hall 11 (by decide)] at hXe
      clear hI hall
      try dsimp only
      obtain ⟨o2, q2, _, e2⟩ := hXe.r2
      obtain ⟨o3, q3, _, e3⟩ := hXe.r3
      obtain ⟨v4, q4, e4⟩ := hXe.r4
      obtain ⟨v5, q5, e5⟩ := hXe.r5
      have e2 := e2 rfl
      have e3 := e3 rfl
      have e4 := e4 rfl
      have e5 := e5 rfl
      subst e2 e3 e4 e5
      have hkp := hXe.kept
      clear hXe
      have Q2 : Hid (Row W w.heap.size 24 o2) := q2
      have Q3 : Hid (Row W (w.heap.size + 1) 29 o3) := q3
      have Q4 : Hid (Row W (w.heap.size + 2) 30 [.int .i64 0]) := q4
      have Q5 : Hid (Row W (w.heap.size + 3) 3 [.int .i64 0]) := q5
      have HKP : Hid (KeptL [w.heap.size, w.heap.size + 1, w.heap.size + 2, w.heap.size + 3] W6 W) := hkp
      clear q2 q3 q4 q5 hkp HRR HCA HR2 HR3 HR4 HR5
      go_wp2
      refine leaves_cons (f := 27) (args := #[.pointer (some ⟨w.heap.size + 5, 0, none⟩), .pointer (some ⟨w.heap.size + 2, 0, none⟩), .pointer (some ⟨w.heap.size + 3, 0, none⟩)]) (by simp) (by simp [go_sem]) ?_
      refine (catch_idle ⟨w.heap.size + 5, 0, none⟩ ⟨w.heap.size + 2, 0, none⟩ ⟨w.heap.size + 3, 0, none⟩ W).mono ?_
      rintro e u' w'' ⟨rfl, rfl, hw⟩
      rw [hw]
      refine ⟨_, results_p4 Tryd.results12 _ W w.heap.size (w.heap.size + 1) (w.heap.size + 2) (w.heap.size + 3) _ _ 0 0 rfl rfl rfl rfl Q2.out Q3.out lc lx (Q4.out.cell 0 _ rfl) (Q5.out.cell 0 _ rfl), ?_⟩
      unfold ParO
      rw [HPR.out]
      have hM7 : RdM N (w.heap.size + 4) ln c t pB eB bB ps pg cl W := by
        have hm := HM.out
        have hN := HNN.out
        refine ⟨HKP.out.row hm.row (by simp), hm.own.keep fun b hb => HKP.out.block b (hm.own.lt b hb) (fun h => ?_), hm.h8, Nat.le_trans hm.sz HKP.out.size⟩
        have := hm.own.lo b hb
        simp at h
        omega
      have ht := hM7.tld HSM.out
      exact ⟨svO t pB eB bB, List.zipWith pgVal ps t.pages, by unfold Tells4; rw [svO_vals, HXS.out, HCS.out]; rfl, hM7.own.view hM7.h8, tld_base ht (by have := HNN.out; omega), below_keptL HB6.out HKP.out (by intro b hb; simp at hb; omega) HB6.out.size⟩
  · rw [HCP.out] at hk
    have hpr := parseR_err hk
    have hk15 := (parse_line hk).1
    clear hbx hsz HCP H0 hmf hzr
    rcases hk15 with rfl | rfl
    · refine leaves_cons (f := 27) (args := #[.pointer (some ⟨w.heap.size + 5, 0, none⟩), .pointer (some ⟨w.heap.size + 2, 0, none⟩), .pointer (some ⟨w.heap.size + 3, 0, none⟩)]) (by simp) (by simp [go_sem]) ?_
      refine (catch_5 (w.heap.size + 5) (w.heap.size + 2) (w.heap.size + 3) (w.heap.size + 4) ln _ _ [] W6 (ra.cell 0 _ rfl) hln r4 r5 (by omega)).mono ?_
      rintro e u' w'' ⟨rfl, rfl, hw⟩
      have s4 := SameBut.setCell (w.heap.size + 2) 0 (.int .i64 5) W6
      have s5 := SameBut.setCell (w.heap.size + 3) 0 (.int .i64 (ln : Int)) (W6.setCell ⟨w.heap.size + 2, 0, none⟩ (.int .i64 5))
      rw [← hw] at s5
      have q2 := (r2.but s4 (by omega)).but s5 (by omega)
      have q3 := (r3.but s4 (by omega)).but s5 (by omega)
      have q4 := ((r4.set 0 (.int .i64 5)).but s5 (by omega)).cell 0 (.int .i64 5) rfl
      have q5 : w''.cell? ⟨w.heap.size + 3, 0, none⟩ = some (.int .i64 (ln : Int)) := by rw [hw]; exact ((r5.but s4 (by omega)).set 0 (.int .i64 (ln : Int))).cell 0 _ rfl
      refine ⟨_, results_p4 Tryd.results12 _ w'' w.heap.size (w.heap.size + 1) (w.heap.size + 2) (w.heap.size + 3) _ _ 5 ln rfl rfl rfl rfl q2 q3 rfl rfl q4 q5, ?_⟩
      unfold ParO
      rw [hpr]
      exact ⟨sv0, [], rfl, stv0 _, tld0 _ _ _ (Nat.le_refl _), s5.below (s4.below b6 (by omega)) (by omega)⟩
    · refine leaves_cons (f := 27) (args := #[.pointer (some ⟨w.heap.size + 5, 0, none⟩), .pointer (some ⟨w.heap.size + 2, 0, none⟩), .pointer (some ⟨w.heap.size + 3, 0, none⟩)]) (by simp) (by simp [go_sem]) ?_
      refine (catch_1 (w.heap.size + 5) (w.heap.size + 2) (w.heap.size + 3) (w.heap.size + 4) ln _ _ [] W6 (ra.cell 0 _ rfl) hln r4 r5 (by omega)).mono ?_
      rintro e u' w'' ⟨rfl, rfl, hw⟩
      have s4 := SameBut.setCell (w.heap.size + 2) 0 (.int .i64 1) W6
      have s5 := SameBut.setCell (w.heap.size + 3) 0 (.int .i64 (ln : Int)) (W6.setCell ⟨w.heap.size + 2, 0, none⟩ (.int .i64 1))
      rw [← hw] at s5
      have q2 := (r2.but s4 (by omega)).but s5 (by omega)
      have q3 := (r3.but s4 (by omega)).but s5 (by omega)
      have q4 := ((r4.set 0 (.int .i64 1)).but s5 (by omega)).cell 0 (.int .i64 1) rfl
      have q5 : w''.cell? ⟨w.heap.size + 3, 0, none⟩ = some (.int .i64 (ln : Int)) := by rw [hw]; exact ((r5.but s4 (by omega)).set 0 (.int .i64 (ln : Int))).cell 0 _ rfl
      refine ⟨_, results_p4 Tryd.results12 _ w'' w.heap.size (w.heap.size + 1) (w.heap.size + 2) (w.heap.size + 3) _ _ 1 ln rfl rfl rfl rfl q2 q3 rfl rfl q4 q5, ?_⟩
      unfold ParO
      rw [hpr]
      exact ⟨sv0, [], rfl, stv0 _, tld0 _ _ _ (Nat.le_refl _), s5.below (s4.below b6 (by omega)) (by omega)⟩
end Go.Proofs.YtgpnbiaghokjkaaDoor

/-! Layer 21: the landed code keeps its contracts. -/
namespace Go.Proofs.YtgpnbiaghokjkaaDoor
open Go.RowKit
theorem ParO.parP {T : List By} {w w' : World} {e : Ending} (h : ParO T w e w') : ParP T w e w' := by
  obtain ⟨v, qs, h1, h2, _, h3⟩ := h
  exact ⟨v, h1, h2, h3⟩
theorem dmpOf : Dmp := ⟨fun c v t w hq h hl he => print_any c v t w hq h hl he, fun T w hT => (parse_own T (by omega) w).mono fun e w' h => h.parP⟩
end Go.Proofs.YtgpnbiaghokjkaaDoor
