import Derived.Test.YtjooabgjkjnhhaaDoorT24T
import Derived.Test.YtjooabgjkjnhhaaDoorK12Ref2
import Derived.Test.YtjooabgjkjnhhaaDoorT24Math

/-! The reference's token: Issue. (Printed by tools/gent24b.py.) -/
namespace Go.Proofs.YtjooabgjkjnhhaaDoor
open Go.RowKit
set_option linter.unusedVariables false
set_option linter.unusedSimpArgs false
set_option maxRecDepth 100000

/-- While the token is put together: ID appended (3), built (5), laid (6). -/
structure I7 (w : World) (key : Int) (id tg : List By) (E1 g8 : Nat) (q3 q5 q6 : Bool) (x37 x39 : Value) (W : World) : Prop where
  c5 : q5 = true → q3 = true
  c6 : q6 = true → q5 = true
  bel : Below w.heap.size w W
  sz : w.heap.size + 1 ≤ W.heap.size
  h8 : Row W g8 26 (tg.map B8)
  id0 : q3 = false → W.ownsRow (w.heap.size + 1) 5 1 (.slice (some ⟨E1, 0, none⟩) 0 0) 0 [] ∧ Row W w.heap.size 28 zTk
  p3 : q3 = true → ∃ ao c', x37 = .slice ao id.length c' ∧ W.ownsRow (w.heap.size + 1) 5 1 (.slice ao id.length c') id.length (id.map B8) ∧ (q5 = true → x39 = .agg (tkC key ao id.length c' none 0 0 tg).toArray) ∧ Row W w.heap.size 28 (if q6 then tkC key ao id.length c' none 0 0 tg else zTk)
section
variable {w : World} {key : Int} {id tg : List By} {E1 g8 : Nat} {q3 q5 q6 : Bool} {x37 x39 : Value} {W W2 : World}
theorem I7.s3 (h : I7 w key id tg E1 g8 q3 q5 q6 x37 x39 W) (e3 : q3 = false) {ao : Option Addr} {c' : Nat} (ho : W2.ownsRow (w.heap.size + 1) 5 1 (.slice ao id.length c') id.length (id.map B8)) (hb : Below (w.heap.size + 1) W W2) (hz : W.heap.size ≤ W2.heap.size) (hk : ∀ k, k < W.heap.size → (∀ g, (some ⟨E1, 0, none⟩ : Option Addr) = some ⟨g, 0, none⟩ → k ≠ g) → W2.heap[k]? = W.heap[k]?) : I7 w key id tg E1 g8 true q5 q6 (.slice ao id.length c') x39 W2 := by
  have e5 := ff24 h.c5 e3
  have e6 := ff24 h.c6 e5
  subst e5 e6
  have o := h.id0 e3
  exact ⟨fun e => (by cases e), fun e => (by cases e), h.bel.trans (hb.mono (by omega)), Nat.le_trans h.sz hz, row_still o.1 hk h.h8 (by decide), fun e => (by cases e), fun _ => ⟨ao, c', rfl, ho, fun e => (by cases e), o.2.below hb (by omega)⟩⟩
theorem I7.s5 (h : I7 w key id tg E1 g8 q3 q5 q6 x37 x39 W) (e3 : q3 = true) (e5 : q5 = false) {ao : Option Addr} {c' : Nat} (u : x37 = .slice ao id.length c') : I7 w key id tg E1 g8 q3 true q6 x37 (.agg (tkC key ao id.length c' none 0 0 tg).toArray) W := by
  have e6 := ff24 h.c6 e5
  subst e6
  obtain ⟨ao2, c2, u2, o2, _, r2⟩ := h.p3 e3
  rw [u] at u2
  injection u2 with a1 _ a3
  subst a1; subst a3
  exact ⟨fun _ => e3, fun e => (by cases e), h.bel, h.sz, h.h8, h.id0, fun _ => ⟨_, _, u, o2, fun _ => rfl, r2⟩⟩
theorem I7.s6 (h : I7 w key id tg E1 g8 q3 q5 q6 x37 x39 W) (e5 : q5 = true) {ao : Option Addr} {c' : Nat} (u : x37 = .slice ao id.length c') (hr0 : Row W w.heap.size 28 zTk) (hr : Row W2 w.heap.size 28 (tkC key ao id.length c' none 0 0 tg)) (hs : SameBut w.heap.size W W2) (hg : g8 ≠ w.heap.size) : I7 w key id tg E1 g8 q3 q5 true x37 x39 W2 := by
  have e3 := h.c5 e5
  obtain ⟨ao2, c2, u2, o2, u5, _⟩ := h.p3 e3
  rw [u] at u2
  injection u2 with a1 _ a3
  subst a1; subst a3
  exact ⟨h.c5, fun _ => e5, hs.below h.bel (Nat.le_refl _), by rw [hs.size]; exact h.sz, h.h8.but hs hg, fun e => (by rw [e3] at e; cases e), fun _ => ⟨_, _, u, owB_but o2 hs hr0 (by decide), u5, hr⟩⟩
end
def IssP (l : Secs) (key : Int) (id : List By) (w : World) (e : Ending) (w' : World) : Prop :=
  Below w.heap.size w w' ∧ if (fnd l key).isSome = false then e = .returned (.tuple #[.agg zTk.toArray, .int .i64 13]) else if id.length < 1 ∨ 64 < id.length then e = .returned (.tuple #[.agg zTk.toArray, .int .i64 4]) else ∃ io ic, e = .returned (.tuple #[.agg (tkCells ⟨key, id, [], sgn l key (firstB id)⟩ io ic none 0).toArray, .int .i64 0]) ∧ TkO 72 w.heap.size w' ⟨key, id, [], sgn l key (firstB id)⟩ io ic none 0
def zH24 : List Value := (List.replicate 32 (0 : By)).map B8
structure IS7 (W1 : World) (w : World) (key : Int) (id tg : List By) (E1 g8 : Nat) (io : Option Addr) (ic : Nat) (L : Nat → Bool) (x34 x35 x36 x37 x38 x39 x7 : Value) (W : World) : Prop where
  x : I7 w key id tg E1 g8 (L 3) (L 5) (L 6) x37 x39 W
  p0 : L 0 = true → x34 = .int .i64 key
  p1 : L 1 = true → x35 = .slice (some ⟨E1, 0, none⟩) 0 0
  p2 : L 2 = true → x36 = .slice io id.length ic
  p4 : L 4 = true → x38 = .agg (tg.map B8).toArray
  p7 : L 7 = true → x7 = .int .i64 0
section
variable {W1 : World} {w : World} {key : Int} {id tg : List By} {E1 g8 : Nat} {io : Option Addr} {ic : Nat} {L : Nat → Bool} {x34 x35 x36 x37 x38 x39 x7 : Value} {W W2 : World}
theorem IS7.s0 (h : IS7 W1 w key id tg E1 g8 io ic L x34 x35 x36 x37 x38 x39 x7 W) : IS7 W1 w key id tg E1 g8 io ic (upd L 0) (.int .i64 key) x35 x36 x37 x38 x39 x7 W :=
  ⟨h.x, fun _ => rfl, h.p1, h.p2, h.p4, h.p7⟩
theorem IS7.s1 (h : IS7 W1 w key id tg E1 g8 io ic L x34 x35 x36 x37 x38 x39 x7 W) : IS7 W1 w key id tg E1 g8 io ic (upd L 1) x34 (.slice (some ⟨E1, 0, none⟩) 0 0) x36 x37 x38 x39 x7 W :=
  ⟨h.x, h.p0, fun _ => rfl, h.p2, h.p4, h.p7⟩
theorem IS7.s2 (h : IS7 W1 w key id tg E1 g8 io ic L x34 x35 x36 x37 x38 x39 x7 W) : IS7 W1 w key id tg E1 g8 io ic (upd L 2) x34 x35 (.slice io id.length ic) x37 x38 x39 x7 W :=
  ⟨h.x, h.p0, h.p1, fun _ => rfl, h.p4, h.p7⟩
theorem IS7.s3 (h : IS7 W1 w key id tg E1 g8 io ic L x34 x35 x36 x37 x38 x39 x7 W) {v : Value} (hX : I7 w key id tg E1 g8 ((upd L 3) 3) ((upd L 3) 5) ((upd L 3) 6) v x39 W2) : IS7 W1 w key id tg E1 g8 io ic (upd L 3) x34 x35 x36 v x38 x39 x7 W2 :=
  ⟨hX, h.p0, h.p1, h.p2, h.p4, h.p7⟩
theorem IS7.s4 (h : IS7 W1 w key id tg E1 g8 io ic L x34 x35 x36 x37 x38 x39 x7 W) : IS7 W1 w key id tg E1 g8 io ic (upd L 4) x34 x35 x36 x37 (.agg (tg.map B8).toArray) x39 x7 W :=
  ⟨h.x, h.p0, h.p1, h.p2, fun _ => rfl, h.p7⟩
theorem IS7.s5 (h : IS7 W1 w key id tg E1 g8 io ic L x34 x35 x36 x37 x38 x39 x7 W) {v : Value} (hX : I7 w key id tg E1 g8 ((upd L 5) 3) ((upd L 5) 5) ((upd L 5) 6) x37 v W2) : IS7 W1 w key id tg E1 g8 io ic (upd L 5) x34 x35 x36 x37 x38 v x7 W2 :=
  ⟨hX, h.p0, h.p1, h.p2, h.p4, h.p7⟩
theorem IS7.s6 (h : IS7 W1 w key id tg E1 g8 io ic L x34 x35 x36 x37 x38 x39 x7 W) (hX : I7 w key id tg E1 g8 ((upd L 6) 3) ((upd L 6) 5) ((upd L 6) 6) x37 x39 W2) : IS7 W1 w key id tg E1 g8 io ic (upd L 6) x34 x35 x36 x37 x38 x39 x7 W2 :=
  ⟨hX, h.p0, h.p1, h.p2, h.p4, h.p7⟩
theorem IS7.s7 (h : IS7 W1 w key id tg E1 g8 io ic L x34 x35 x36 x37 x38 x39 x7 W) : IS7 W1 w key id tg E1 g8 io ic (upd L 7) x34 x35 x36 x37 x38 x39 (.int .i64 0) W :=
  ⟨h.x, h.p0, h.p1, h.p2, h.p4, fun _ => rfl⟩
end
@[reducible] def IIS7 (W1 : World) (w : World) (key : Int) (id tg : List By) (E1 g8 : Nat) (io : Option Addr) (ic : Nat) (y0 y1 y2 y3 y4 y5 y6 y8 y9 y10 y11 y12 y13 y14 y15 y16 y17 y18 y19 y20 y21 y22 y23 y24 y25 y26 y27 y28 y29 y30 y31 y32 y33 : Value) : (Nat → Bool) → Act → World → Prop := fun L a W => ∃ x34 x35 x36 x37 x38 x39 x7, a = ⟨#[y0, y1, y2, y3, y4, y5, y6, x7, y8, y9, y10, y11, y12, y13, y14, y15, y16, y17, y18, y19, y20, y21, y22, y23, y24, y25, y26, y27, y28, y29, y30, y31, y32, y33, x34, x35, x36, x37, x38, x39], []⟩ ∧ IS7 W1 w key id tg E1 g8 io ic L x34 x35 x36 x37 x38 x39 x7 W
theorem IS7.step {W1 : World} {w : World} {key : Int} {id tg : List By} {E1 g8 : Nat} {io : Option Addr} {ic : Nat} {y0 y1 y2 y3 y4 y5 y6 y8 y9 y10 y11 y12 y13 y14 y15 y16 y17 y18 y19 y20 y21 y22 y23 y24 y25 y26 y27 y28 y29 y30 y31 y32 y33 : Value} {P : Program} {ops : Array Oper} {Q : Exit → Act → World → Prop} {i : Nat} {o : Oper} (hq : ∀ x34 x35 x36 x37 x38 x39 x7 (L : Nat → Bool) (W : World), IS7 W1 w key id tg E1 g8 io ic L x34 x35 x36 x37 x38 x39 x7 W → L i = false → (∀ j ∈ onesOf o, L j = true) → ∀ K : Act → World → Prop, Shut (∀ a' w', IIS7 W1 w key id tg E1 g8 io ic y0 y1 y2 y3 y4 y5 y6 y8 y9 y10 y11 y12 y13 y14 y15 y16 y17 y18 y19 y20 y21 y22 y23 y24 y25 y26 y27 y28 y29 y30 y31 y32 y33 (upd L i) a' w' → K a' w') → if Region.wanted o (yielded ops (⟨#[y0, y1, y2, y3, y4, y5, y6, x7, y8, y9, y10, y11, y12, y13, y14, y15, y16, y17, y18, y19, y20, y21, y22, y23, y24, y25, y26, y27, y28, y29, y30, y31, y32, y33, x34, x35, x36, x37, x38, x39], []⟩ : Act).tmps) = true then Oper.wp P o ⟨#[y0, y1, y2, y3, y4, y5, y6, x7, y8, y9, y10, y11, y12, y13, y14, y15, y16, y17, y18, y19, y20, y21, y22, y23, y24, y25, y26, y27, y28, y29, y30, y31, y32, y33, x34, x35, x36, x37, x38, x39], []⟩ W K Q else K ((⟨#[y0, y1, y2, y3, y4, y5, y6, x7, y8, y9, y10, y11, y12, y13, y14, y15, y16, y17, y18, y19, y20, y21, y22, y23, y24, y25, y26, y27, y28, y29, y30, y31, y32, y33, x34, x35, x36, x37, x38, x39], []⟩ : Act).put o.dst undef) W) : StepI P ops (IIS7 W1 w key id tg E1 g8 io ic y0 y1 y2 y3 y4 y5 y6 y8 y9 y10 y11 y12 y13 y14 y15 y16 y17 y18 y19 y20 y21 y22 y23 y24 y25 y26 y27 y28 y29 y30 y31 y32 y33) Q i o := by
  rintro L a W ⟨x34, x35, x36, x37, x38, x39, x7, rfl, h⟩
  exact hq _ _ _ _ _ _ _ _ _ h
theorem IS7.ends {W1 : World} {w : World} {key : Int} {id tg : List By} {E1 g8 : Nat} {io : Option Addr} {ic : Nat} {y0 y1 y2 y3 y4 y5 y6 y8 y9 y10 y11 y12 y13 y14 y15 y16 y17 y18 y19 y20 y21 y22 y23 y24 y25 y26 y27 y28 y29 y30 y31 y32 y33 : Value} {mm_ : Nat} {Q : Exit → Act → World → Prop} (hq : ∀ x34 x35 x36 x37 x38 x39 x7 (L : Nat → Bool) (W : World), (∀ j, j < mm_ → L j = true) → IS7 W1 w key id tg E1 g8 io ic L x34 x35 x36 x37 x38 x39 x7 W → Q .normal ⟨#[y0, y1, y2, y3, y4, y5, y6, x7, y8, y9, y10, y11, y12, y13, y14, y15, y16, y17, y18, y19, y20, y21, y22, y23, y24, y25, y26, y27, y28, y29, y30, y31, y32, y33, x34, x35, x36, x37, x38, x39], []⟩ W) : ∀ L a' w', (∀ j, j < mm_ → L j = true) → IIS7 W1 w key id tg E1 g8 io ic y0 y1 y2 y3 y4 y5 y6 y8 y9 y10 y11 y12 y13 y14 y15 y16 y17 y18 y19 y20 y21 y22 y23 y24 y25 y26 y27 y28 y29 y30 y31 y32 y33 L a' w' → Q .normal a' w' := by
  rintro L a W hall ⟨x34, x35, x36, x37, x38, x39, x7, rfl, h⟩
  exact hq _ _ _ _ _ _ _ _ _ hall h
end Go.Proofs.YtjooabgjkjnhhaaDoor


/-! The reference's token: Pairs. (Printed by tools/gent24b.py.) -/
namespace Go.Proofs.YtjooabgjkjnhhaaDoor
open Go.RowKit
set_option linter.unusedVariables false
set_option linter.unusedSimpArgs false
set_option maxRecDepth 100000

/-- A pair's cells: key, message, tag. -/
def prC (p : List By × List By × List By) : List Value := [.string (strOf p.1), .string (strOf p.2.1)] ++ p.2.2.map B8
theorem prC_len {p : List By × List By × List By} (h : p.2.2.length = 32) : (prC p).length = 34 := by simp [prC, h]
theorem prC_one (p : List By × List By × List By) : ∀ v ∈ prC p, v.oneCell' = true := by
  intro v hv
  unfold prC at hv
  rcases List.mem_append.1 hv with h | h
  · simp at h
    rcases h with rfl | rfl <;> rfl
  · exact B8_one _ v h
section
variable {N : Nat} {W0 : World} {R : World → Prop} {L0 : List (List By × List By × List By)} {po : Option Addr} {pc : Nat} {p : List By × List By × List By} {q9 q10 q11 : Bool} {x26 x27 x8 : Value} {W W2 : World}
end
end Go.Proofs.YtjooabgjkjnhhaaDoor


/-! Token as data: tags on the way, and what one tag of two tokens says (of any function of tags). -/
namespace Go.Proofs.YtjooabgjkjnhhaaDoor
set_option linter.unusedVariables false
section
variable (tg : List By → List By → List By)
/-- The right tag. -/
def rightT (s id : List By) (l : List Cv) : List By := l.foldl (fun g c => tg g (cvB c)) (tg s (firstB id))
/-- A key, a message, their tag: all on the way. -/
def prsF (g : List By) : List Cv → List (List By × List By × List By)
  | [] => []
  | c :: l => (g, cvB c, tg g (cvB c)) :: prsF (tg g (cvB c)) l
def prs (s id : List By) (l : List Cv) : List (List By × List By × List By) := (s, firstB id, tg s (firstB id)) :: prsF tg (tg s (firstB id)) l
def clashP (L : List (List By × List By × List By)) : Prop := ∃ x ∈ L, ∃ y ∈ L, x.2.2 = y.2.2 ∧ (x.1 ≠ y.1 ∨ x.2.1 ≠ y.2.1)
theorem rightT_snoc (s id : List By) (l : List Cv) (c : Cv) : rightT tg s id (l ++ [c]) = tg (rightT tg s id l) (cvB c) := by
  unfold rightT; rw [List.foldl_append]; rfl
theorem prsF_snoc : ∀ (l : List Cv) (g : List By) (c : Cv), prsF tg g (l ++ [c]) = prsF tg g l ++ [(l.foldl (fun g c => tg g (cvB c)) g, cvB c, tg (l.foldl (fun g c => tg g (cvB c)) g) (cvB c))]
  | [], g, c => rfl
  | d :: l, g, c => by rw [List.cons_append, prsF, prsF_snoc l, prsF]; rfl
theorem prs_snoc (s id : List By) (l : List Cv) (c : Cv) : prs tg s id (l ++ [c]) = prs tg s id l ++ [(rightT tg s id l, cvB c, tg (rightT tg s id l) (cvB c))] := by
  unfold prs rightT; rw [prsF_snoc]; rfl
theorem prs_len (s id : List By) : ∀ l : List Cv, (prs tg s id l).length = l.length + 1 := by
  have : ∀ (l : List Cv) (g : List By), (prsF tg g l).length = l.length := fun l => by
    induction l with
    | nil => intro g; rfl
    | cons c l ih => intro g; rw [prsF, List.length_cons, ih, List.length_cons]
  intro l
  unfold prs
  rw [List.length_cons, this]
theorem firstB_inj {a b : List By} (h : firstB a = firstB b) : a = b := by
  have : (firstB a).drop 18 = (firstB b).drop 18 := by rw [h]
  exact this
theorem firstB_ne_cvB {id : List By} {c : Cv} (h : cvMay c = true) : firstB id ≠ cvB c := by
  intro e
  have hk := (cvMay_in h).1
  have h0 : (firstB id).getD 0 0 = (cvB c).getD 0 0 := by rw [e]
  have h1 : (112#8 : By) = BitVec.ofInt 8 c.k := h0
  have h2 := congrArg BitVec.toNat h1
  have h3 := ofInt8 (n := c.k) (by omega) (by omega)
  have h4 : (112#8 : By).toNat = 112 := rfl
  omega
theorem cvB_inj {c d : Cv} (h : cvMay c = true) (hz : c.z < 18446744073709551616) (h' : cvMay d = true) (hz' : d.z < 18446744073709551616) (e : cvB c = cvB d) : c = d := by
  have h1 := cvAt_cvB h hz []
  have h2 := cvAt_cvB h' hz' []
  rw [← h1, ← h2, e]
theorem clashP_mono {L M : List (List By × List By × List By)} (h : clashP L) (hs : ∀ x ∈ L, x ∈ M) : clashP M := by
  obtain ⟨x, hx, y, hy, h1⟩ := h
  exact ⟨x, hs x hx, y, hs y hy, h1⟩
/-- One tag: the same token, or a clash. -/
theorem only24 (s : List By) : ∀ (n : Nat) (id id' : List By) (l l' : List Cv), l.length ≤ n → (∀ c ∈ l, cvMay c = true ∧ c.z < 18446744073709551616) → (∀ c ∈ l', cvMay c = true ∧ c.z < 18446744073709551616) →
    rightT tg s id l = rightT tg s id' l' → ¬ (id = id' ∧ l = l') → clashP (prs tg s id l ++ prs tg s id' l') := by
  intro n
  induction n with
  | zero =>
    intro id id' l l' hn hl hl' he hne
    have : l = [] := List.eq_nil_of_length_eq_zero (by omega)
    subst this
    rcases List.eq_nil_or_concat l' with rfl | ⟨m', c', rfl⟩
    · refine ⟨_, List.mem_append_left _ (List.mem_cons_self ..), _, List.mem_append_right _ (List.mem_cons_self ..), he, .inr fun e => hne ⟨firstB_inj e, rfl⟩⟩
    · rw [List.concat_eq_append] at *
      rw [rightT_snoc] at he
      refine ⟨_, List.mem_append_left _ (List.mem_cons_self ..), (rightT tg s id' m', cvB c', tg (rightT tg s id' m') (cvB c')), List.mem_append_right _ (by rw [prs_snoc]; simp), he, .inr fun e => ?_⟩
      exact firstB_ne_cvB (hl' c' (by simp)).1 e
  | succ n ih =>
    intro id id' l l' hn hl hl' he hne
    rcases List.eq_nil_or_concat l with rfl | ⟨m, c, rfl⟩
    · rcases List.eq_nil_or_concat l' with rfl | ⟨m', c', rfl⟩
      · refine ⟨_, List.mem_append_left _ (List.mem_cons_self ..), _, List.mem_append_right _ (List.mem_cons_self ..), he, .inr fun e => hne ⟨firstB_inj e, rfl⟩⟩
      · rw [List.concat_eq_append] at *
        rw [rightT_snoc] at he
        refine ⟨_, List.mem_append_left _ (List.mem_cons_self ..), (rightT tg s id' m', cvB c', tg (rightT tg s id' m') (cvB c')), List.mem_append_right _ (by rw [prs_snoc]; simp), he, .inr fun e => ?_⟩
        exact firstB_ne_cvB (hl' c' (by simp)).1 e
    · rw [List.concat_eq_append] at *
      rw [rightT_snoc] at he
      rcases List.eq_nil_or_concat l' with rfl | ⟨m', c', rfl⟩
      · refine ⟨(rightT tg s id m, cvB c, tg (rightT tg s id m) (cvB c)), List.mem_append_left _ (by rw [prs_snoc]; simp), _, List.mem_append_right _ (List.mem_cons_self ..), he, .inr fun e => ?_⟩
        exact firstB_ne_cvB (hl c (by simp)).1 e.symm
      · rw [List.concat_eq_append] at *
        rw [rightT_snoc] at he
        by_cases hk : rightT tg s id m = rightT tg s id' m' ∧ cvB c = cvB c'
        · have hc := hl c (by simp)
          have hc' := hl' c' (by simp)
          have ec := cvB_inj hc.1 hc.2 hc'.1 hc'.2 hk.2
          subst ec
          rw [List.length_append, List.length_singleton] at hn
          refine clashP_mono (ih id id' m m' (by omega) (fun d hd => hl d (List.mem_append_left _ hd)) (fun d hd => hl' d (List.mem_append_left _ hd)) hk.1 fun e => hne ⟨e.1, by rw [e.2]⟩) fun x hx => ?_
          rw [prs_snoc, prs_snoc]
          rcases List.mem_append.1 hx with h | h
          · exact List.mem_append_left _ (List.mem_append_left _ h)
          · exact List.mem_append_right _ (List.mem_append_left _ h)
        · refine ⟨(rightT tg s id m, cvB c, tg (rightT tg s id m) (cvB c)), List.mem_append_left _ (by rw [prs_snoc]; simp), (rightT tg s id' m', cvB c', tg (rightT tg s id' m') (cvB c')), List.mem_append_right _ (by rw [prs_snoc]; simp), he, ?_⟩
          by_cases h1 : rightT tg s id m = rightT tg s id' m'
          · exact .inr fun e => hk ⟨h1, e⟩
          · exact .inl h1
end
end Go.Proofs.YtjooabgjkjnhhaaDoor


/-! The reference's token: Pairs, Right. (Printed by tools/gent24b.py.) -/
namespace Go.Proofs.YtjooabgjkjnhhaaDoor
open Go.RowKit
set_option linter.unusedVariables false
set_option linter.unusedSimpArgs false
set_option maxRecDepth 100000
section
variable {W1 : World} {N : Nat} {Wz : World} {R : World → Prop} {L0 : List (List By × List By × List By)} {po : Option Addr} {pc : Nat} {kb mb : List By} {ko : Option Addr} {kn kc : Nat} {mo : Option Addr} {mn mc : Nat} {L : Nat → Bool} {x17 x18 x19 x20 x21 x22 x23 x24 x25 x26 x27 x8 : Value} {W W2 : World}
end
section
variable {W1 : World} {N : Nat} {Wz : World} {R : World → Prop} {L0 : List (List By × List By × List By)} {po : Option Addr} {pc : Nat} {kb mb : List By} {ko : Option Addr} {kn kc : Nat} {mo : Option Addr} {mn mc : Nat} {L : Nat → Bool} {x57 x58 x59 x60 x61 x62 x63 x64 x65 x66 x67 x8 : Value} {W W2 : World}
end
theorem prs_tags (s id : List By) (l : List Cv) : ∀ p ∈ prs tag s id l, p.2.2.length = 32 := by
  have key : ∀ (l : List Cv) (g : List By), ∀ p ∈ prsF tag g l, p.2.2.length = 32 := by
    intro l
    induction l with
    | nil => intro g p hp; cases hp
    | cons c l ih =>
      intro g p hp
      rcases List.mem_cons.1 hp with rfl | hp
      · exact tag_len _ _
      · exact ih _ p hp
  intro p hp
  rcases List.mem_cons.1 hp with rfl | hp
  · exact tag_len _ _
  · exact key _ _ p hp
theorem prs_last (s id : List By) (l : List Cv) : ∃ a b, (prs tag s id l)[l.length]? = some (a, b, rightT tag s id l) := by
  rcases List.eq_nil_or_concat l with rfl | ⟨l', c, rfl⟩
  · exact ⟨s, firstB id, rfl⟩
  · rw [List.concat_eq_append, prs_snoc, rightT_snoc, List.length_append, List.getElem?_append_right (by rw [prs_len]; simp), prs_len]
    exact ⟨rightT tag s id l', cvB c, by simp⟩
theorem flP_len (L : List (List By × List By × List By)) (h : ∀ p ∈ L, p.2.2.length = 32) : (L.flatMap prC).length = L.length * 34 := by
  induction L with
  | nil => rfl
  | cons p L ih => rw [List.flatMap_cons, List.length_append, prC_len (h p (List.mem_cons_self ..)), ih (fun q hq => h q (List.mem_cons_of_mem _ hq)), List.length_cons]; omega
theorem flP_at (L : List (List By × List By × List By)) (h : ∀ p ∈ L, p.2.2.length = 32) (i : Nat) (p : List By × List By × List By) (hi : L[i]? = some p) (j : Nat) (v : Value) (hv : (prC p)[j]? = some v) : (L.flatMap prC)[i * 34 + j]? = some v := by
  induction L generalizing i with
  | nil => simp at hi
  | cons d L ih =>
    have hd := prC_len (h d (List.mem_cons_self ..))
    have hp := prC_len (h p (List.mem_of_getElem? hi))
    have hj : j < 34 := by have := (List.getElem?_eq_some_iff.1 hv).1; omega
    rw [List.flatMap_cons]
    cases i with
    | zero =>
      simp at hi; subst hi
      rw [Nat.zero_mul, Nat.zero_add, List.getElem?_append_left (by omega)]
      exact hv
    | succ i =>
      rw [List.getElem?_append_right (by omega), hd, show (i + 1) * 34 + j - 34 = i * 34 + j by omega]
      exact ih (fun q hq => h q (List.mem_cons_of_mem _ hq)) i (by simpa using hi)
end Go.Proofs.YtjooabgjkjnhhaaDoor


/-! The reference's token: Right. -/
namespace Go.Proofs.YtjooabgjkjnhhaaDoor
open Go.RowKit
set_option linter.unusedVariables false
set_option linter.unusedSimpArgs false
set_option maxRecDepth 100000

end Go.Proofs.YtjooabgjkjnhhaaDoor
