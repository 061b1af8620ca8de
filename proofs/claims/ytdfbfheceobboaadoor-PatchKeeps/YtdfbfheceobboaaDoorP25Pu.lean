
import Derived.Test.YtdfbfheceobboaaDoorP25Cc
import Derived.Test.YtdfbfheceobboaaDoorI11Inv
/-! The code's patch: a part's bytes. (Printed by tools/genc25.py.) -/
namespace Go.Proofs.YtdfbfheceobboaaDoor
open Go.RowKit
set_option linter.unusedVariables false
set_option linter.unusedSimpArgs false
set_option maxRecDepth 100000

theorem own_ne_row {N : Nat} {W : World} {ao : Option Addr} {n c G t : Nat} {m : List By} {cs : List Value} (h : Own N W (.slice ao n c) m) (hr : Row W G t cs) (ht : t ≠ 5) : ao ≠ some ⟨G, 0, none⟩ := by
  intro e
  subst e
  rcases h.1.2 with ⟨e1, _⟩ | ⟨g2, c', cur, e1, _, hh, _⟩
  · cases e1
  · injection e1 with e1 _ _
    injection e1 with e1
    injection e1 with e1
    subst e1
    have h2 : W.heap[G]? = _ := hr
    rw [hh] at h2
    injection h2 with h2
    injection h2 with _ h2
    exact ht h2.symm
/-- Bytes behind bytes of one's own, at a step of a drawn region. -/
theorem step_append_grw {ops : Array Oper} {o : Oper} {a : Act} {w : World} {K : Act → World → Prop} {Q : Exit → Act → World → Prop} {X : Prop} (hw : Region.wanted o (yielded ops a.tmps) = true) (s x : Operand)
    (ho : o.op = .call { callee := .builtin .append, args := #[s, x], argTypes := #[22, 22] })
    (N : Nat) (aoD : Option Addr) (nD capD : Nat) (m : List By) (hs : a.eval s = .slice aoD nD capD) (hown : Own N w (.slice aoD nD capD) m)
    (B off n cap : Nat) (b : List By) (hx : a.eval x = .slice (some ⟨B, off, none⟩) n cap) (hn : b.length = n) (hb : IsB w (some ⟨B, off, none⟩) b) (hn0 : 0 < n) (hl : nD + n < 140737488353280)
    (h : ∀ ao' cap' w', Own N w' (.slice ao' (nD + n) cap') (m ++ b) → Grw N aoD ao' w w' → K (a.put o.dst (.slice ao' (nD + n) cap')) w') : if Region.wanted o (yielded ops a.tmps) = true then Oper.wp Tryd.prog o a w K Q else X := by
  rw [if_pos hw]
  have hlen := hown.len
  have h1 := hown.1
  rw [hlen] at h1
  have hc : ∀ j u, (b.map B8)[j]? = some u → w.cell? ⟨B, off + j, none⟩ = some u := by
    rcases hb with rfl | ⟨B', off', e, hc⟩
    · simp
    · injection e with e; injection e with e1 e2; subst e1; subst e2
      intro j u hu
      rw [List.getElem?_map] at hu
      obtain ⟨q, hq, rfl⟩ := Option.map_eq_some_iff.1 hu
      exact hc j q hq
  obtain ⟨ao', cap', w', hrun, q1, q2, q3, q4⟩ := run_append_gen el_bytes N w w o.type aoD nD capD (m.map B8) h1 hown.2 (Below.refl _ _) (some ⟨B, off, none⟩) n cap (b.map B8) (by rw [List.length_map, hn, Nat.mul_one]) (.inr ⟨B, off, rfl, hc⟩) (B8_one _) (by simp) (by unfold maxLen; omega) (by omega)
  have hwh := append_where el_bytes N w o.type aoD nD capD (m.map B8) h1 ⟨B, off, none⟩ n cap (b.map B8) (by rw [List.length_map, hn, Nat.mul_one]) (fun j u hu => by rw [Addr.add_mid]; exact hc j u hu) (B8_one _) hn0 (by unfold maxLen; omega) (by omega) ao' _ cap' w' hrun
  unfold Oper.wp execOp
  simp only [ho, resolve, invoke, builtin, Sem.run_bind, Sem.run_pure, Result.andThen_ok, List.map_toArray, List.map_cons, List.map_nil, hs, hx, hrun]
  refine h ao' cap' w' ⟨?_, Nat.le_trans hown.2 q3⟩ ⟨q2, q3, q4, hwh.imp (·.1) fun e => ⟨_, e.1, Nat.le_refl _⟩⟩
  rw [List.length_append, hlen, List.map_append, hn]
  exact q1
/-- While a part's bytes are put: a mark made (1), appended (2), a number (3), the rest (4), told (5). -/
structure PuW (N : Nat) (w : World) (bt : Nat) (bcs : List Value) (ao : Option Addr) (n c : Nat) (m : List By) (y : By) (M2 M3 : List By) (z : Nat) (q1 q2 q3 q4 q5 : Bool) (x6 x7 x10 x13 x4 : Value) (W : World) : Prop where
  c2 : q2 = true → q1 = true
  c3 : q3 = true → q2 = true
  c4 : q4 = true → q3 = true
  box : Row W w.heap.size bt bcs
  p0 : q2 = false → Own N W (.slice ao n c) m ∧ Grw N ao ao w W
  p1 : q1 = true → q2 = false → ∃ B, x6 = .slice (some ⟨B, 0, none⟩) 1 1 ∧ Row W B 5 ([y].map B8)
  p2 : q2 = true → q3 = false → ∃ ao' c', x7 = .slice ao' (n + 1) c' ∧ Own N W (.slice ao' (n + 1) c') (m ++ [y]) ∧ Grw N ao ao' w W
  p3 : q3 = true → q4 = false → ∃ ao' c', x10 = .slice ao' (n + 5) c' ∧ Own N W (.slice ao' (n + 5) c') (m ++ [y] ++ M2) ∧ Grw N ao ao' w W
  p4 : q4 = true → ∃ ao' c', x13 = .slice ao' (n + z) c' ∧ Own N W (.slice ao' (n + z) c') (m ++ [y] ++ M2 ++ M3) ∧ Grw N ao ao' w W
  p5 : q5 = true → q4 = true ∧ x4 = x13
theorem ff25 {p q : Bool} (h : q = true → p = true) (e : p = false) : q = false := by
  cases q with
  | false => rfl
  | true => rw [h rfl] at e; cases e
section
variable {N : Nat} {w : World} {bt : Nat} {bcs : List Value} {ao : Option Addr} {n c : Nat} {m : List By} {y : By} {M2 M3 : List By} {z : Nat} {q1 q2 q3 q4 q5 : Bool} {x6 x7 x10 x13 x4 : Value} {W W2 : World}
theorem PuW.s1 (h : PuW N w bt bcs ao n c m y M2 M3 z q1 q2 q3 q4 q5 x6 x7 x10 x13 x4 W) (e1 : q1 = false) {v : Int} (hv : v = (y.toNat : Int) := by rfl) : PuW N w bt bcs ao n c m y M2 M3 z true q2 q3 q4 q5 (.slice (some ⟨W.heap.size, 0, none⟩) 1 1) x7 x10 x13 x4 (W.alloc (.cells #[.int .u8 v] 5)) := by
  subst hv
  have e2 := ff25 h.c2 e1
  have e3 := ff25 h.c3 e2
  have e4 := ff25 h.c4 e3
  have e5 := ff25 (fun e => (h.p5 e).1) e4
  subst e1; subst e2; subst e3; subst e4; subst e5
  have hb : Below W.heap.size W (W.alloc (.cells #[.int .u8 (y.toNat : Int)] 5)) := (Below.refl _ _).alloc (Nat.le_refl _) _
  obtain ⟨o, g⟩ := h.p0 rfl
  exact ⟨fun e => (by cases e), fun e => (by cases e), fun e => (by cases e), h.box.below hb h.box.lt, fun _ => ⟨o.keep hb, g.trans (.of_below hb o.2)⟩, fun _ _ => ⟨_, rfl, Row.at W _ _ _ _ rfl rfl⟩, fun e => (by cases e), fun e => (by cases e), fun e => (by cases e), fun e => (by cases e)⟩
theorem PuW.s2 (h : PuW N w bt bcs ao n c m y M2 M3 z q1 q2 q3 q4 q5 x6 x7 x10 x13 x4 W) (e1 : q1 = true) (e2 : q2 = false) {ao' : Option Addr} {c' : Nat} (ho : Own N W2 (.slice ao' (n + 1) c') (m ++ [y])) (hg : Grw N ao ao' w W2) (hb : Row W2 w.heap.size bt bcs) : PuW N w bt bcs ao n c m y M2 M3 z q1 true q3 q4 q5 x6 (.slice ao' (n + 1) c') x10 x13 x4 W2 := by
  have e3 := ff25 h.c3 e2
  have e4 := ff25 h.c4 e3
  have e5 := ff25 (fun e => (h.p5 e).1) e4
  subst e1; subst e2; subst e3; subst e4; subst e5
  exact ⟨fun _ => rfl, fun e => (by cases e), fun e => (by cases e), hb, fun e => (by cases e), fun _ e => (by cases e), fun _ _ => ⟨_, _, rfl, ho, hg⟩, fun e => (by cases e), fun e => (by cases e), fun e => (by cases e)⟩
theorem PuW.s3 (h : PuW N w bt bcs ao n c m y M2 M3 z q1 q2 q3 q4 q5 x6 x7 x10 x13 x4 W) (e2 : q2 = true) (e3 : q3 = false) {ao' : Option Addr} {c' : Nat} (ho : Own N W2 (.slice ao' (n + 5) c') (m ++ [y] ++ M2)) (hg : Grw N ao ao' w W2) (hb : Row W2 w.heap.size bt bcs) : PuW N w bt bcs ao n c m y M2 M3 z q1 q2 true q4 q5 x6 x7 (.slice ao' (n + 5) c') x13 x4 W2 := by
  have e4 := ff25 h.c4 e3
  have e5 := ff25 (fun e => (h.p5 e).1) e4
  have e1 := h.c2 e2
  subst e1; subst e2; subst e3; subst e4; subst e5
  exact ⟨fun _ => rfl, fun _ => rfl, fun e => (by cases e), hb, fun e => (by cases e), fun _ e => (by cases e), fun _ e => (by cases e), fun _ _ => ⟨_, _, rfl, ho, hg⟩, fun e => (by cases e), fun e => (by cases e)⟩
theorem PuW.s4 (h : PuW N w bt bcs ao n c m y M2 M3 z q1 q2 q3 q4 q5 x6 x7 x10 x13 x4 W) (e3 : q3 = true) (e4 : q4 = false) {ao' : Option Addr} {c' n' : Nat} (ho : Own N W2 (.slice ao' n' c') (m ++ [y] ++ M2 ++ M3)) (hg : Grw N ao ao' w W2) (hb : Row W2 w.heap.size bt bcs) (hn : n' = n + z := by omega) : PuW N w bt bcs ao n c m y M2 M3 z q1 q2 q3 true q5 x6 x7 x10 (.slice ao' n' c') x4 W2 := by
  subst hn
  have e5 := ff25 (fun e => (h.p5 e).1) e4
  have e2 := h.c3 e3
  have e1 := h.c2 e2
  subst e1; subst e2; subst e3; subst e4; subst e5
  exact ⟨fun _ => rfl, fun _ => rfl, fun _ => rfl, hb, fun e => (by cases e), fun _ e => (by cases e), fun _ e => (by cases e), fun _ e => (by cases e), fun _ => ⟨_, _, rfl, ho, hg⟩, fun e => (by cases e)⟩
theorem PuW.s5 (h : PuW N w bt bcs ao n c m y M2 M3 z q1 q2 q3 q4 q5 x6 x7 x10 x13 x4 W) (e4 : q4 = true) : PuW N w bt bcs ao n c m y M2 M3 z q1 q2 q3 q4 true x6 x7 x10 x13 x13 W :=
  ⟨h.c2, h.c3, h.c4, h.box, h.p0, h.p1, h.p2, h.p3, h.p4, fun _ => ⟨e4, rfl⟩⟩
end
structure SP1 (W1 : World) (N : Nat) (w : World) (f k : Nat) (ao : Option Addr) (n c : Nat) (m : List By) (L : Nat → Bool) (x5 x6 x7 x8 x9 x10 x11 x12 x13 x4 : Value) (W : World) : Prop where
  x : PuW N w 66 [.int .i64 (f : Int), .int .i64 (k : Int)] ao n c m (1#8) (le4 f) (le4 k) 9 (L 1) (L 2) (L 5) (L 8) (L 9) x6 x7 x10 x13 x4 W
  p0 : L 0 = true → x5 = .slice ao n c
  p3 : L 3 = true → x8 = .pointer (some ⟨w.heap.size, 0, none⟩)
  p4 : L 4 = true → x9 = .int .i64 (f : Int)
  p6 : L 6 = true → x11 = .pointer (some ⟨w.heap.size, 1, none⟩)
  p7 : L 7 = true → x12 = .int .i64 (k : Int)
section
variable {W1 : World} {N : Nat} {w : World} {f k : Nat} {ao : Option Addr} {n c : Nat} {m : List By} {L : Nat → Bool} {x5 x6 x7 x8 x9 x10 x11 x12 x13 x4 : Value} {W W2 : World}
theorem SP1.s0 (h : SP1 W1 N w f k ao n c m L x5 x6 x7 x8 x9 x10 x11 x12 x13 x4 W) : SP1 W1 N w f k ao n c m (upd L 0) (.slice ao n c) x6 x7 x8 x9 x10 x11 x12 x13 x4 W :=
  ⟨h.x, fun _ => rfl, h.p3, h.p4, h.p6, h.p7⟩
theorem SP1.s1 (h : SP1 W1 N w f k ao n c m L x5 x6 x7 x8 x9 x10 x11 x12 x13 x4 W) {v : Value} (hX : PuW N w 66 [.int .i64 (f : Int), .int .i64 (k : Int)] ao n c m (1#8) (le4 f) (le4 k) 9 ((upd L 1) 1) ((upd L 1) 2) ((upd L 1) 5) ((upd L 1) 8) ((upd L 1) 9) v x7 x10 x13 x4 W2) : SP1 W1 N w f k ao n c m (upd L 1) x5 v x7 x8 x9 x10 x11 x12 x13 x4 W2 :=
  ⟨hX, h.p0, h.p3, h.p4, h.p6, h.p7⟩
theorem SP1.s2 (h : SP1 W1 N w f k ao n c m L x5 x6 x7 x8 x9 x10 x11 x12 x13 x4 W) {v : Value} (hX : PuW N w 66 [.int .i64 (f : Int), .int .i64 (k : Int)] ao n c m (1#8) (le4 f) (le4 k) 9 ((upd L 2) 1) ((upd L 2) 2) ((upd L 2) 5) ((upd L 2) 8) ((upd L 2) 9) x6 v x10 x13 x4 W2) : SP1 W1 N w f k ao n c m (upd L 2) x5 x6 v x8 x9 x10 x11 x12 x13 x4 W2 :=
  ⟨hX, h.p0, h.p3, h.p4, h.p6, h.p7⟩
theorem SP1.s3 (h : SP1 W1 N w f k ao n c m L x5 x6 x7 x8 x9 x10 x11 x12 x13 x4 W) : SP1 W1 N w f k ao n c m (upd L 3) x5 x6 x7 (.pointer (some ⟨w.heap.size, 0, none⟩)) x9 x10 x11 x12 x13 x4 W :=
  ⟨h.x, h.p0, fun _ => rfl, h.p4, h.p6, h.p7⟩
theorem SP1.s4 (h : SP1 W1 N w f k ao n c m L x5 x6 x7 x8 x9 x10 x11 x12 x13 x4 W) : SP1 W1 N w f k ao n c m (upd L 4) x5 x6 x7 x8 (.int .i64 (f : Int)) x10 x11 x12 x13 x4 W :=
  ⟨h.x, h.p0, h.p3, fun _ => rfl, h.p6, h.p7⟩
theorem SP1.s5 (h : SP1 W1 N w f k ao n c m L x5 x6 x7 x8 x9 x10 x11 x12 x13 x4 W) {v : Value} (hX : PuW N w 66 [.int .i64 (f : Int), .int .i64 (k : Int)] ao n c m (1#8) (le4 f) (le4 k) 9 ((upd L 5) 1) ((upd L 5) 2) ((upd L 5) 5) ((upd L 5) 8) ((upd L 5) 9) x6 x7 v x13 x4 W2) : SP1 W1 N w f k ao n c m (upd L 5) x5 x6 x7 x8 x9 v x11 x12 x13 x4 W2 :=
  ⟨hX, h.p0, h.p3, h.p4, h.p6, h.p7⟩
theorem SP1.s6 (h : SP1 W1 N w f k ao n c m L x5 x6 x7 x8 x9 x10 x11 x12 x13 x4 W) : SP1 W1 N w f k ao n c m (upd L 6) x5 x6 x7 x8 x9 x10 (.pointer (some ⟨w.heap.size, 1, none⟩)) x12 x13 x4 W :=
  ⟨h.x, h.p0, h.p3, h.p4, fun _ => rfl, h.p7⟩
theorem SP1.s7 (h : SP1 W1 N w f k ao n c m L x5 x6 x7 x8 x9 x10 x11 x12 x13 x4 W) : SP1 W1 N w f k ao n c m (upd L 7) x5 x6 x7 x8 x9 x10 x11 (.int .i64 (k : Int)) x13 x4 W :=
  ⟨h.x, h.p0, h.p3, h.p4, h.p6, fun _ => rfl⟩
theorem SP1.s8 (h : SP1 W1 N w f k ao n c m L x5 x6 x7 x8 x9 x10 x11 x12 x13 x4 W) {v : Value} (hX : PuW N w 66 [.int .i64 (f : Int), .int .i64 (k : Int)] ao n c m (1#8) (le4 f) (le4 k) 9 ((upd L 8) 1) ((upd L 8) 2) ((upd L 8) 5) ((upd L 8) 8) ((upd L 8) 9) x6 x7 x10 v x4 W2) : SP1 W1 N w f k ao n c m (upd L 8) x5 x6 x7 x8 x9 x10 x11 x12 v x4 W2 :=
  ⟨hX, h.p0, h.p3, h.p4, h.p6, h.p7⟩
theorem SP1.s9 (h : SP1 W1 N w f k ao n c m L x5 x6 x7 x8 x9 x10 x11 x12 x13 x4 W) {v : Value} (hX : PuW N w 66 [.int .i64 (f : Int), .int .i64 (k : Int)] ao n c m (1#8) (le4 f) (le4 k) 9 ((upd L 9) 1) ((upd L 9) 2) ((upd L 9) 5) ((upd L 9) 8) ((upd L 9) 9) x6 x7 x10 x13 v W2) : SP1 W1 N w f k ao n c m (upd L 9) x5 x6 x7 x8 x9 x10 x11 x12 x13 v W2 :=
  ⟨hX, h.p0, h.p3, h.p4, h.p6, h.p7⟩
end
@[reducible] def ISP1 (W1 : World) (N : Nat) (w : World) (f k : Nat) (ao : Option Addr) (n c : Nat) (m : List By) (y0 y1 y2 y3 : Value) : (Nat → Bool) → Act → World → Prop := fun L a W => ∃ x5 x6 x7 x8 x9 x10 x11 x12 x13 x4, a = ⟨#[y0, y1, y2, y3, x4, x5, x6, x7, x8, x9, x10, x11, x12, x13], []⟩ ∧ SP1 W1 N w f k ao n c m L x5 x6 x7 x8 x9 x10 x11 x12 x13 x4 W
theorem SP1.step {W1 : World} {N : Nat} {w : World} {f k : Nat} {ao : Option Addr} {n c : Nat} {m : List By} {y0 y1 y2 y3 : Value} {P : Program} {ops : Array Oper} {Q : Exit → Act → World → Prop} {i : Nat} {o : Oper} (hq : ∀ x5 x6 x7 x8 x9 x10 x11 x12 x13 x4 (L : Nat → Bool) (W : World), SP1 W1 N w f k ao n c m L x5 x6 x7 x8 x9 x10 x11 x12 x13 x4 W → L i = false → (∀ j ∈ onesOf o, L j = true) → ∀ K : Act → World → Prop, Shut (∀ a' w', ISP1 W1 N w f k ao n c m y0 y1 y2 y3 (upd L i) a' w' → K a' w') → if Region.wanted o (yielded ops (⟨#[y0, y1, y2, y3, x4, x5, x6, x7, x8, x9, x10, x11, x12, x13], []⟩ : Act).tmps) = true then Oper.wp P o ⟨#[y0, y1, y2, y3, x4, x5, x6, x7, x8, x9, x10, x11, x12, x13], []⟩ W K Q else K ((⟨#[y0, y1, y2, y3, x4, x5, x6, x7, x8, x9, x10, x11, x12, x13], []⟩ : Act).put o.dst undef) W) : StepI P ops (ISP1 W1 N w f k ao n c m y0 y1 y2 y3) Q i o := by
  rintro L a W ⟨x5, x6, x7, x8, x9, x10, x11, x12, x13, x4, rfl, h⟩
  exact hq _ _ _ _ _ _ _ _ _ _ _ _ h
theorem SP1.ends {W1 : World} {N : Nat} {w : World} {f k : Nat} {ao : Option Addr} {n c : Nat} {m : List By} {y0 y1 y2 y3 : Value} {mm_ : Nat} {Q : Exit → Act → World → Prop} (hq : ∀ x5 x6 x7 x8 x9 x10 x11 x12 x13 x4 (L : Nat → Bool) (W : World), (∀ j, j < mm_ → L j = true) → SP1 W1 N w f k ao n c m L x5 x6 x7 x8 x9 x10 x11 x12 x13 x4 W → Q .normal ⟨#[y0, y1, y2, y3, x4, x5, x6, x7, x8, x9, x10, x11, x12, x13], []⟩ W) : ∀ L a' w', (∀ j, j < mm_ → L j = true) → ISP1 W1 N w f k ao n c m y0 y1 y2 y3 L a' w' → Q .normal a' w' := by
  rintro L a W hall ⟨x5, x6, x7, x8, x9, x10, x11, x12, x13, x4, rfl, h⟩
  exact hq _ _ _ _ _ _ _ _ _ _ _ _ hall h
structure LP1 (W1 : World) (N : Nat) (w : World) (B off k bc : Nat) (b : List By) (ao : Option Addr) (n c : Nat) (m : List By) (L : Nat → Bool) (x5 x6 x7 x8 x9 x10 x11 x12 x13 x14 x4 : Value) (W : World) : Prop where
  x : PuW N w 63 [.slice (some ⟨B, off, none⟩) k bc] ao n c m (2#8) (le4 k) b (5 + k) (L 1) (L 2) (L 6) (L 9) (L 10) x6 x7 x11 x14 x4 W
  p0 : L 0 = true → x5 = .slice ao n c
  p3 : L 3 = true → x8 = .pointer (some ⟨w.heap.size, 0, none⟩)
  p4 : L 4 = true → x9 = .slice (some ⟨B, off, none⟩) k bc
  p5 : L 5 = true → x10 = .int .i64 (k : Int)
  p7 : L 7 = true → x12 = .pointer (some ⟨w.heap.size, 0, none⟩)
  p8 : L 8 = true → x13 = .slice (some ⟨B, off, none⟩) k bc
section
variable {W1 : World} {N : Nat} {w : World} {B off k bc : Nat} {b : List By} {ao : Option Addr} {n c : Nat} {m : List By} {L : Nat → Bool} {x5 x6 x7 x8 x9 x10 x11 x12 x13 x14 x4 : Value} {W W2 : World}
theorem LP1.s0 (h : LP1 W1 N w B off k bc b ao n c m L x5 x6 x7 x8 x9 x10 x11 x12 x13 x14 x4 W) : LP1 W1 N w B off k bc b ao n c m (upd L 0) (.slice ao n c) x6 x7 x8 x9 x10 x11 x12 x13 x14 x4 W :=
  ⟨h.x, fun _ => rfl, h.p3, h.p4, h.p5, h.p7, h.p8⟩
theorem LP1.s1 (h : LP1 W1 N w B off k bc b ao n c m L x5 x6 x7 x8 x9 x10 x11 x12 x13 x14 x4 W) {v : Value} (hX : PuW N w 63 [.slice (some ⟨B, off, none⟩) k bc] ao n c m (2#8) (le4 k) b (5 + k) ((upd L 1) 1) ((upd L 1) 2) ((upd L 1) 6) ((upd L 1) 9) ((upd L 1) 10) v x7 x11 x14 x4 W2) : LP1 W1 N w B off k bc b ao n c m (upd L 1) x5 v x7 x8 x9 x10 x11 x12 x13 x14 x4 W2 :=
  ⟨hX, h.p0, h.p3, h.p4, h.p5, h.p7, h.p8⟩
theorem LP1.s2 (h : LP1 W1 N w B off k bc b ao n c m L x5 x6 x7 x8 x9 x10 x11 x12 x13 x14 x4 W) {v : Value} (hX : PuW N w 63 [.slice (some ⟨B, off, none⟩) k bc] ao n c m (2#8) (le4 k) b (5 + k) ((upd L 2) 1) ((upd L 2) 2) ((upd L 2) 6) ((upd L 2) 9) ((upd L 2) 10) x6 v x11 x14 x4 W2) : LP1 W1 N w B off k bc b ao n c m (upd L 2) x5 x6 v x8 x9 x10 x11 x12 x13 x14 x4 W2 :=
  ⟨hX, h.p0, h.p3, h.p4, h.p5, h.p7, h.p8⟩
theorem LP1.s3 (h : LP1 W1 N w B off k bc b ao n c m L x5 x6 x7 x8 x9 x10 x11 x12 x13 x14 x4 W) : LP1 W1 N w B off k bc b ao n c m (upd L 3) x5 x6 x7 (.pointer (some ⟨w.heap.size, 0, none⟩)) x9 x10 x11 x12 x13 x14 x4 W :=
  ⟨h.x, h.p0, fun _ => rfl, h.p4, h.p5, h.p7, h.p8⟩
theorem LP1.s4 (h : LP1 W1 N w B off k bc b ao n c m L x5 x6 x7 x8 x9 x10 x11 x12 x13 x14 x4 W) : LP1 W1 N w B off k bc b ao n c m (upd L 4) x5 x6 x7 x8 (.slice (some ⟨B, off, none⟩) k bc) x10 x11 x12 x13 x14 x4 W :=
  ⟨h.x, h.p0, h.p3, fun _ => rfl, h.p5, h.p7, h.p8⟩
theorem LP1.s5 (h : LP1 W1 N w B off k bc b ao n c m L x5 x6 x7 x8 x9 x10 x11 x12 x13 x14 x4 W) : LP1 W1 N w B off k bc b ao n c m (upd L 5) x5 x6 x7 x8 x9 (.int .i64 (k : Int)) x11 x12 x13 x14 x4 W :=
  ⟨h.x, h.p0, h.p3, h.p4, fun _ => rfl, h.p7, h.p8⟩
theorem LP1.s6 (h : LP1 W1 N w B off k bc b ao n c m L x5 x6 x7 x8 x9 x10 x11 x12 x13 x14 x4 W) {v : Value} (hX : PuW N w 63 [.slice (some ⟨B, off, none⟩) k bc] ao n c m (2#8) (le4 k) b (5 + k) ((upd L 6) 1) ((upd L 6) 2) ((upd L 6) 6) ((upd L 6) 9) ((upd L 6) 10) x6 x7 v x14 x4 W2) : LP1 W1 N w B off k bc b ao n c m (upd L 6) x5 x6 x7 x8 x9 x10 v x12 x13 x14 x4 W2 :=
  ⟨hX, h.p0, h.p3, h.p4, h.p5, h.p7, h.p8⟩
theorem LP1.s7 (h : LP1 W1 N w B off k bc b ao n c m L x5 x6 x7 x8 x9 x10 x11 x12 x13 x14 x4 W) : LP1 W1 N w B off k bc b ao n c m (upd L 7) x5 x6 x7 x8 x9 x10 x11 (.pointer (some ⟨w.heap.size, 0, none⟩)) x13 x14 x4 W :=
  ⟨h.x, h.p0, h.p3, h.p4, h.p5, fun _ => rfl, h.p8⟩
theorem LP1.s8 (h : LP1 W1 N w B off k bc b ao n c m L x5 x6 x7 x8 x9 x10 x11 x12 x13 x14 x4 W) : LP1 W1 N w B off k bc b ao n c m (upd L 8) x5 x6 x7 x8 x9 x10 x11 x12 (.slice (some ⟨B, off, none⟩) k bc) x14 x4 W :=
  ⟨h.x, h.p0, h.p3, h.p4, h.p5, h.p7, fun _ => rfl⟩
theorem LP1.s9 (h : LP1 W1 N w B off k bc b ao n c m L x5 x6 x7 x8 x9 x10 x11 x12 x13 x14 x4 W) {v : Value} (hX : PuW N w 63 [.slice (some ⟨B, off, none⟩) k bc] ao n c m (2#8) (le4 k) b (5 + k) ((upd L 9) 1) ((upd L 9) 2) ((upd L 9) 6) ((upd L 9) 9) ((upd L 9) 10) x6 x7 x11 v x4 W2) : LP1 W1 N w B off k bc b ao n c m (upd L 9) x5 x6 x7 x8 x9 x10 x11 x12 x13 v x4 W2 :=
  ⟨hX, h.p0, h.p3, h.p4, h.p5, h.p7, h.p8⟩
theorem LP1.s10 (h : LP1 W1 N w B off k bc b ao n c m L x5 x6 x7 x8 x9 x10 x11 x12 x13 x14 x4 W) {v : Value} (hX : PuW N w 63 [.slice (some ⟨B, off, none⟩) k bc] ao n c m (2#8) (le4 k) b (5 + k) ((upd L 10) 1) ((upd L 10) 2) ((upd L 10) 6) ((upd L 10) 9) ((upd L 10) 10) x6 x7 x11 x14 v W2) : LP1 W1 N w B off k bc b ao n c m (upd L 10) x5 x6 x7 x8 x9 x10 x11 x12 x13 x14 v W2 :=
  ⟨hX, h.p0, h.p3, h.p4, h.p5, h.p7, h.p8⟩
end
@[reducible] def ILP1 (W1 : World) (N : Nat) (w : World) (B off k bc : Nat) (b : List By) (ao : Option Addr) (n c : Nat) (m : List By) (y0 y1 y2 y3 : Value) : (Nat → Bool) → Act → World → Prop := fun L a W => ∃ x5 x6 x7 x8 x9 x10 x11 x12 x13 x14 x4, a = ⟨#[y0, y1, y2, y3, x4, x5, x6, x7, x8, x9, x10, x11, x12, x13, x14], []⟩ ∧ LP1 W1 N w B off k bc b ao n c m L x5 x6 x7 x8 x9 x10 x11 x12 x13 x14 x4 W
theorem LP1.step {W1 : World} {N : Nat} {w : World} {B off k bc : Nat} {b : List By} {ao : Option Addr} {n c : Nat} {m : List By} {y0 y1 y2 y3 : Value} {P : Program} {ops : Array Oper} {Q : Exit → Act → World → Prop} {i : Nat} {o : Oper} (hq : ∀ x5 x6 x7 x8 x9 x10 x11 x12 x13 x14 x4 (L : Nat → Bool) (W : World), LP1 W1 N w B off k bc b ao n c m L x5 x6 x7 x8 x9 x10 x11 x12 x13 x14 x4 W → L i = false → (∀ j ∈ onesOf o, L j = true) → ∀ K : Act → World → Prop, Shut (∀ a' w', ILP1 W1 N w B off k bc b ao n c m y0 y1 y2 y3 (upd L i) a' w' → K a' w') → if Region.wanted o (yielded ops (⟨#[y0, y1, y2, y3, x4, x5, x6, x7, x8, x9, x10, x11, x12, x13, x14], []⟩ : Act).tmps) = true then Oper.wp P o ⟨#[y0, y1, y2, y3, x4, x5, x6, x7, x8, x9, x10, x11, x12, x13, x14], []⟩ W K Q else K ((⟨#[y0, y1, y2, y3, x4, x5, x6, x7, x8, x9, x10, x11, x12, x13, x14], []⟩ : Act).put o.dst undef) W) : StepI P ops (ILP1 W1 N w B off k bc b ao n c m y0 y1 y2 y3) Q i o := by
  rintro L a W ⟨x5, x6, x7, x8, x9, x10, x11, x12, x13, x14, x4, rfl, h⟩
  exact hq _ _ _ _ _ _ _ _ _ _ _ _ _ h
theorem LP1.ends {W1 : World} {N : Nat} {w : World} {B off k bc : Nat} {b : List By} {ao : Option Addr} {n c : Nat} {m : List By} {y0 y1 y2 y3 : Value} {mm_ : Nat} {Q : Exit → Act → World → Prop} (hq : ∀ x5 x6 x7 x8 x9 x10 x11 x12 x13 x14 x4 (L : Nat → Bool) (W : World), (∀ j, j < mm_ → L j = true) → LP1 W1 N w B off k bc b ao n c m L x5 x6 x7 x8 x9 x10 x11 x12 x13 x14 x4 W → Q .normal ⟨#[y0, y1, y2, y3, x4, x5, x6, x7, x8, x9, x10, x11, x12, x13, x14], []⟩ W) : ∀ L a' w', (∀ j, j < mm_ → L j = true) → ILP1 W1 N w B off k bc b ao n c m y0 y1 y2 y3 L a' w' → Q .normal a' w' := by
  rintro L a W hall ⟨x5, x6, x7, x8, x9, x10, x11, x12, x13, x14, x4, rfl, h⟩
  exact hq _ _ _ _ _ _ _ _ _ _ _ _ _ hall h
theorem wpList_at25 {P : Program} {ops : Array Oper} {l : List Oper} {a : Act} {W w : World} {Q : Exit → Act → World → Prop} (h : w = W) (k : wpList P ops Q l a w) : wpList P ops Q l a W := h ▸ k
set_option maxHeartbeats 1000000 in
theorem sput_any (N : Nat) (f k : Nat) (ao : Option Addr) (n c : Nat) (m : List By) (w : World) (hown : Own N w (.slice ao n c) m) (hn : n ≤ 900000000) (hf : f < 4294967296) (hk : k < 4294967296) :
    Calls Tryd.prog 91 #[.agg #[.int .i64 (f : Int), .int .i64 (k : Int)], .slice ao n c] w (PutP N ao w (n + 9) (m ++ [1#8] ++ le4 f ++ le4 k)) := by
  obtain ⟨W1, hW1⟩ : ∃ W1, W1 = w.alloc (.cells #[.int .i64 (f : Int), .int .i64 (k : Int)] 66) := ⟨_, rfl⟩
  have hb1 : Below w.heap.size w W1 := by rw [hW1]; exact (Below.refl _ _).alloc (Nat.le_refl _) _
  have r1 : Row W1 w.heap.size 66 [.int .i64 (f : Int), .int .i64 (k : Int)] := by rw [hW1]; exact Row.at w _ _ _ _ rfl rfl
  have HS : Hid (∀ x6 x7 x10 x13 x4, PuW N w 66 [.int .i64 (f : Int), .int .i64 (k : Int)] ao n c m (1#8) (le4 f) (le4 k) 9 false false false false false x6 x7 x10 x13 x4 W1.drew) := fun x6 x7 x10 x13 x4 =>
    ⟨fun e => (by cases e), fun e => (by cases e), fun e => (by cases e), r1.drew, fun _ => ⟨hown.keep hb1.drew, .of_below hb1.drew hown.2⟩, fun e => (by cases e), fun e => (by cases e), fun e => (by cases e), fun e => (by cases e), fun e => (by cases e)⟩
  have FN1 : Hid (∀ W ao' c', Own N W (.slice ao' (n + 1) c') (m ++ [1#8]) → Calls Tryd.prog 22 #[.slice ao' (n + 1) c', .int .i64 (f : Int)] W (PutP N ao' W (n + 5) (m ++ [1#8] ++ le4 f))) := fun W ao' c' h => cputn_any N ao' (n + 1) c' _ f W h (by omega) hf
  have FN2 : Hid (∀ W ao' c', Own N W (.slice ao' (n + 5) c') (m ++ [1#8] ++ le4 f) → Calls Tryd.prog 22 #[.slice ao' (n + 5) c', .int .i64 (k : Int)] W (PutP N ao' W (n + 9) (m ++ [1#8] ++ le4 f ++ le4 k))) := fun W ao' c' h => cputn_any N ao' (n + 5) c' _ k W h (by omega) hk
  clear hown hf hk hb1 r1
  go_enter Tryd.func91, Tryd.ntmps91
  go_upto_region 1 with (have hz := hW1; clear hz; refine wpList_at25 hW1 ?_; clear hW1)
  try dsimp only [Act.put]
  refine wp_region_inv (ISP1 W1 N w f k ao n c m _ _ _ _) (by kernel_rfl) (by kernel_rfl) ⟨_, _, _, _, _, _, _, _, _, _, rfl, ⟨HS.out _ _ _ _ _, fun k => (by cases k), fun k => (by cases k), fun k => (by cases k), fun k => (by cases k), fun k => (by cases k)⟩⟩ ?_ ?_
  · refine .cons ?_ (.cons ?_ (.cons ?_ (.cons ?_ (.cons ?_ (.cons ?_ (.cons ?_ (.cons ?_ (.cons ?_ (.cons ?_ .nil)))))))))
    all_goals (refine SP1.step ?_; intro x5 x6 x7 x8 x9 x10 x11 x12 x13 x4 L W hI hL hd K hK)
    · rw [if_pos (by rfl)]
      go_simp
      exact hK.out _ _ ⟨_, _, _, _, _, _, _, _, _, _, rfl, hI.s0⟩
    · rw [if_pos (by rfl)]
      go_simp
      have hX := hI.x.s1 hL
      exact hK.out _ _ ⟨_, _, _, _, _, _, _, _, _, _, rfl, hI.s1 hX⟩
    · have hx0 := hI.p0 (hd 0 (by decide))
      subst hx0
      obtain ⟨B6, u6, r6⟩ := hI.x.p1 (hd 1 (by decide)) hL
      obtain ⟨o0, g0⟩ := hI.x.p0 hL
      refine step_append_grw (by rfl) (.tmp 5) (.tmp 6) rfl N ao n c m rfl o0 B6 0 1 1 [1#8] u6 rfl (row_isb r6) (by omega) (by omega) ?_
      intro ao2 c2 W2 ho2 hg2
      have hX := hI.x.s2 (hd 1 (by decide)) hL ho2 (g0.trans hg2) (hg2.row hI.x.box (own_ne_row o0 hI.x.box (by decide)))
      exact hK.out _ _ ⟨_, _, _, _, _, _, _, _, _, _, rfl, hI.s2 hX⟩
    · rw [if_pos (by rfl)]
      go_simp
      exact hK.out _ _ ⟨_, _, _, _, _, _, _, _, _, _, rfl, hI.s3⟩
    · have hx3 := hI.p3 (hd 3 (by decide))
      subst hx3
      rw [if_pos (by rfl)]
      have hc := hI.x.box.cell 0 _ rfl
      go_simp
      exact hK.out _ _ ⟨_, _, _, _, _, _, _, _, _, _, rfl, hI.s4⟩
    · have hx4 := hI.p4 (hd 4 (by decide))
      subst hx4
      rw [if_pos (by rfl)]
      go_simp
      obtain ⟨ao7, c7, u7, o7, g7⟩ := hI.x.p2 (hd 2 (by decide)) hL
      subst u7
      refine (FN1.out _ _ _ o7).mono ?_
      rintro e W2 ⟨ao2, c2, rfl, ho2, hg2⟩
      go_simp
      have hX := hI.x.s3 (hd 2 (by decide)) hL ho2 (g7.trans hg2) (hg2.row hI.x.box (own_ne_row o7 hI.x.box (by decide)))
      exact hK.out _ _ ⟨_, _, _, _, _, _, _, _, _, _, rfl, hI.s5 hX⟩
    · rw [if_pos (by rfl)]
      go_simp
      exact hK.out _ _ ⟨_, _, _, _, _, _, _, _, _, _, rfl, hI.s6⟩
    · have hx6 := hI.p6 (hd 6 (by decide))
      subst hx6
      rw [if_pos (by rfl)]
      have hc := hI.x.box.cell 1 _ rfl
      go_simp
      exact hK.out _ _ ⟨_, _, _, _, _, _, _, _, _, _, rfl, hI.s7⟩
    · have hx7 := hI.p7 (hd 7 (by decide))
      subst hx7
      rw [if_pos (by rfl)]
      go_simp
      obtain ⟨ao7, c7, u7, o7, g7⟩ := hI.x.p3 (hd 5 (by decide)) hL
      subst u7
      refine (FN2.out _ _ _ o7).mono ?_
      rintro e W2 ⟨ao2, c2, rfl, ho2, hg2⟩
      go_simp
      have hX := hI.x.s4 (hd 5 (by decide)) hL ho2 (g7.trans hg2) (hg2.row hI.x.box (own_ne_row o7 hI.x.box (by decide)))
      exact hK.out _ _ ⟨_, _, _, _, _, _, _, _, _, _, rfl, hI.s8 hX⟩
    · rw [if_pos (by rfl)]
      go_simp
      have hX := hI.x.s5 (hd 8 (by decide))
      exact hK.out _ _ ⟨_, _, _, _, _, _, _, _, _, _, rfl, hI.s9 hX⟩
  · refine SP1.ends ?_; intro x5 x6 x7 x8 x9 x10 x11 x12 x13 x4 L W hall hI
    have hx0 := hI.p0 (hall 0 (by decide))
    subst hx0
    have hx3 := hI.p3 (hall 3 (by decide))
    subst hx3
    have hx4 := hI.p4 (hall 4 (by decide))
    subst hx4
    have hx6 := hI.p6 (hall 6 (by decide))
    subst hx6
    have hx7 := hI.p7 (hall 7 (by decide))
    subst hx7
    have hXe := hI.x
    rw [hall 1 (by decide)] at hXe
    rw [hall 2 (by decide)] at hXe
    rw [hall 5 (by decide)] at hXe
    rw [hall 8 (by decide)] at hXe
    rw [hall 9 (by decide)] at hXe
    clear hI hall
    try dsimp only
    obtain ⟨_, e4⟩ := hXe.p5 rfl
    subst e4
    obtain ⟨ao2, c2, u2, o2, g2⟩ := hXe.p4 rfl
    subst u2
    clear hXe
    have H2 : Hid (PutP N ao w (n + 9) (m ++ [1#8] ++ le4 f ++ le4 k) (.returned (.slice ao2 (n + 9) c2)) W) := ⟨ao2, c2, rfl, o2, g2⟩
    clear o2 g2
    clear HS FN1 FN2
    generalize m ++ [1#8] ++ le4 f ++ le4 k = MM at *
    go_wp2
    go_ret
    exact H2.out
set_option maxHeartbeats 1000000 in
theorem lput_any (N : Nat) (B off k bc : Nat) (b : List By) (ao : Option Addr) (n c : Nat) (m : List By) (w : World) (hown : Own N w (.slice ao n c) m) (hn : n ≤ 900000000) (hk0 : 1 ≤ k) (hk : k < 4294967296) (hb : b.length = k) (hbb : IsB w (some ⟨B, off, none⟩) b) (hne : ∀ B' off', some (⟨B, off, none⟩ : Addr) = some ⟨B', off', none⟩ → ao ≠ some ⟨B', 0, none⟩) :
    Calls Tryd.prog 87 #[.agg #[.slice (some ⟨B, off, none⟩) k bc], .slice ao n c] w (PutP N ao w (n + (5 + k)) (m ++ [2#8] ++ le4 k ++ b)) := by
  obtain ⟨W1, hW1⟩ : ∃ W1, W1 = w.alloc (.cells #[.slice (some ⟨B, off, none⟩) k bc] 63) := ⟨_, rfl⟩
  have hb1 : Below w.heap.size w W1 := by rw [hW1]; exact (Below.refl _ _).alloc (Nat.le_refl _) _
  have r1 : Row W1 w.heap.size 63 [.slice (some ⟨B, off, none⟩) k bc] := by rw [hW1]; exact Row.at w _ _ _ _ rfl rfl
  have HS : Hid (∀ x6 x7 x10 x13 x4, PuW N w 63 [.slice (some ⟨B, off, none⟩) k bc] ao n c m (2#8) (le4 k) b (5 + k) false false false false false x6 x7 x10 x13 x4 W1.drew) := fun x6 x7 x10 x13 x4 =>
    ⟨fun e => (by cases e), fun e => (by cases e), fun e => (by cases e), r1.drew, fun _ => ⟨hown.keep hb1.drew, .of_below hb1.drew hown.2⟩, fun e => (by cases e), fun e => (by cases e), fun e => (by cases e), fun e => (by cases e), fun e => (by cases e)⟩
  have FN1 : Hid (∀ W ao' c', Own N W (.slice ao' (n + 1) c') (m ++ [2#8]) → Calls Tryd.prog 22 #[.slice ao' (n + 1) c', .int .i64 (k : Int)] W (PutP N ao' W (n + 5) (m ++ [2#8] ++ le4 k))) := fun W ao' c' h => cputn_any N ao' (n + 1) c' _ k W h (by omega) hk
  have HL : Hid (b.length = k) := hb
  have HB : Hid (IsB w (some ⟨B, off, none⟩) b) := hbb
  have HNE : Hid (∀ B' off', some (⟨B, off, none⟩ : Addr) = some ⟨B', off', none⟩ → ao ≠ some ⟨B', 0, none⟩) := hne
  clear hown hb1 r1 hb hbb hne
  go_enter Tryd.func87, Tryd.ntmps87
  go_upto_region 1 with (have hz := hW1; clear hz; refine wpList_at25 hW1 ?_; clear hW1)
  try dsimp only [Act.put]
  refine wp_region_inv (ILP1 W1 N w B off k bc b ao n c m _ _ _ _) (by kernel_rfl) (by kernel_rfl) ⟨_, _, _, _, _, _, _, _, _, _, _, rfl, ⟨HS.out _ _ _ _ _, fun k => (by cases k), fun k => (by cases k), fun k => (by cases k), fun k => (by cases k), fun k => (by cases k), fun k => (by cases k)⟩⟩ ?_ ?_
  · refine .cons ?_ (.cons ?_ (.cons ?_ (.cons ?_ (.cons ?_ (.cons ?_ (.cons ?_ (.cons ?_ (.cons ?_ (.cons ?_ (.cons ?_ .nil))))))))))
    all_goals (refine LP1.step ?_; intro x5 x6 x7 x8 x9 x10 x11 x12 x13 x14 x4 L W hI hL hd K hK)
    · rw [if_pos (by rfl)]
      go_simp
      exact hK.out _ _ ⟨_, _, _, _, _, _, _, _, _, _, _, rfl, hI.s0⟩
    · rw [if_pos (by rfl)]
      go_simp
      have hX := hI.x.s1 hL
      exact hK.out _ _ ⟨_, _, _, _, _, _, _, _, _, _, _, rfl, hI.s1 hX⟩
    · have hx0 := hI.p0 (hd 0 (by decide))
      subst hx0
      obtain ⟨B6, u6, r6⟩ := hI.x.p1 (hd 1 (by decide)) hL
      obtain ⟨o0, g0⟩ := hI.x.p0 hL
      refine step_append_grw (by rfl) (.tmp 5) (.tmp 6) rfl N ao n c m rfl o0 B6 0 1 1 [2#8] u6 rfl (row_isb r6) (by omega) (by omega) ?_
      intro ao2 c2 W2 ho2 hg2
      have hX := hI.x.s2 (hd 1 (by decide)) hL ho2 (g0.trans hg2) (hg2.row hI.x.box (own_ne_row o0 hI.x.box (by decide)))
      exact hK.out _ _ ⟨_, _, _, _, _, _, _, _, _, _, _, rfl, hI.s2 hX⟩
    · rw [if_pos (by rfl)]
      go_simp
      exact hK.out _ _ ⟨_, _, _, _, _, _, _, _, _, _, _, rfl, hI.s3⟩
    · have hx3 := hI.p3 (hd 3 (by decide))
      subst hx3
      rw [if_pos (by rfl)]
      have hc := hI.x.box.cell 0 _ rfl
      go_simp
      exact hK.out _ _ ⟨_, _, _, _, _, _, _, _, _, _, _, rfl, hI.s4⟩
    · have hx4 := hI.p4 (hd 4 (by decide))
      subst hx4
      rw [if_pos (by rfl)]
      go_simp
      exact hK.out _ _ ⟨_, _, _, _, _, _, _, _, _, _, _, rfl, hI.s5⟩
    · have hx5 := hI.p5 (hd 5 (by decide))
      subst hx5
      rw [if_pos (by rfl)]
      go_simp
      obtain ⟨ao7, c7, u7, o7, g7⟩ := hI.x.p2 (hd 2 (by decide)) hL
      subst u7
      refine (FN1.out _ _ _ o7).mono ?_
      rintro e W2 ⟨ao2, c2, rfl, ho2, hg2⟩
      go_simp
      have hX := hI.x.s3 (hd 2 (by decide)) hL ho2 (g7.trans hg2) (hg2.row hI.x.box (own_ne_row o7 hI.x.box (by decide)))
      exact hK.out _ _ ⟨_, _, _, _, _, _, _, _, _, _, _, rfl, hI.s6 hX⟩
    · rw [if_pos (by rfl)]
      go_simp
      exact hK.out _ _ ⟨_, _, _, _, _, _, _, _, _, _, _, rfl, hI.s7⟩
    · have hx7 := hI.p7 (hd 7 (by decide))
      subst hx7
      rw [if_pos (by rfl)]
      have hc := hI.x.box.cell 0 _ rfl
      go_simp
      exact hK.out _ _ ⟨_, _, _, _, _, _, _, _, _, _, _, rfl, hI.s8⟩
    · have hx8 := hI.p8 (hd 8 (by decide))
      subst hx8
      obtain ⟨ao7, c7, u7, o7, g7⟩ := hI.x.p3 (hd 6 (by decide)) hL
      refine step_append_grw (by rfl) (.tmp 11) (.tmp 13) rfl N ao7 (n + 5) c7 (m ++ [2#8] ++ le4 k) u7 o7 B off k bc b rfl HL.out (g7.isb HB.out (fun B2 off2 _ e => HNE.out B2 off2 e)) (by omega) (by omega) ?_
      intro ao2 c2 W2 ho2 hg2
      have hX := hI.x.s4 (hd 6 (by decide)) hL ho2 (g7.trans hg2) (hg2.row hI.x.box (own_ne_row o7 hI.x.box (by decide)))
      exact hK.out _ _ ⟨_, _, _, _, _, _, _, _, _, _, _, rfl, hI.s9 hX⟩
    · rw [if_pos (by rfl)]
      go_simp
      have hX := hI.x.s5 (hd 9 (by decide))
      exact hK.out _ _ ⟨_, _, _, _, _, _, _, _, _, _, _, rfl, hI.s10 hX⟩
  · refine LP1.ends ?_; intro x5 x6 x7 x8 x9 x10 x11 x12 x13 x14 x4 L W hall hI
    have hx0 := hI.p0 (hall 0 (by decide))
    subst hx0
    have hx3 := hI.p3 (hall 3 (by decide))
    subst hx3
    have hx4 := hI.p4 (hall 4 (by decide))
    subst hx4
    have hx5 := hI.p5 (hall 5 (by decide))
    subst hx5
    have hx7 := hI.p7 (hall 7 (by decide))
    subst hx7
    have hx8 := hI.p8 (hall 8 (by decide))
    subst hx8
    have hXe := hI.x
    rw [hall 1 (by decide)] at hXe
    rw [hall 2 (by decide)] at hXe
    rw [hall 6 (by decide)] at hXe
    rw [hall 9 (by decide)] at hXe
    rw [hall 10 (by decide)] at hXe
    clear hI hall
    try dsimp only
    obtain ⟨_, e4⟩ := hXe.p5 rfl
    subst e4
    obtain ⟨ao2, c2, u2, o2, g2⟩ := hXe.p4 rfl
    subst u2
    clear hXe
    have H2 : Hid (PutP N ao w (n + (5 + k)) (m ++ [2#8] ++ le4 k ++ b) (.returned (.slice ao2 (n + (5 + k)) c2)) W) := ⟨ao2, c2, rfl, o2, g2⟩
    clear o2 g2
    clear HS FN1
    generalize m ++ [2#8] ++ le4 k ++ b = MM at *
    go_wp2
    go_ret
    exact H2.out
end Go.Proofs.YtdfbfheceobboaaDoor
