
import Derived.Test.YtjooabgjkjnhhaaGreatDoorK12Map
import Derived.Test.YtjooabgjkjnhhaaGreatDoorI11Inv
/-! The reference's New of a ring. (Printed by tools/gennew12.py.) -/
namespace Go.Proofs.YtjooabgjkjnhhaaGreatDoor
open Go.RowKit
set_option linter.unusedVariables false

/-- What is wrong with the secret number i, if anything. -/
def secE (l : Secs) (i : Nat) : Option Int :=
  if (l.getD i (0, [])).1 < 0 ∨ 63 < (l.getD i (0, [])).1 then some 2
  else if (l.getD i (0, [])).2.length < 1 ∨ 256 < (l.getD i (0, [])).2.length then some 4
  else if (fnd (l.take i) (l.getD i (0, [])).1).isSome then some 18 else none
/-- What is wrong with secrets, and with which one. -/
def newE (l : Secs) : Option (Int × Nat) :=
  if 64 < l.length then some (3, 64) else (List.range l.length).findSome? fun i => (secE l i).map fun e => (e, i)
theorem newE_many {l : Secs} (h : 64 < l.length) : newE l = some (3, 64) := by unfold newE; rw [if_pos h]
theorem range_findSome {α : Type} (f : Nat → Option α) : ∀ (n i : Nat), i < n → (∀ j, j < i → f j = none) → ∀ x, f i = some x → (List.range n).findSome? f = some x
  | 0, i, h, _, _, _ => absurd h (by omega)
  | n + 1, i, h, hj, x, hx => by
    rw [List.range_succ, List.findSome?_append]
    rcases Nat.lt_or_ge i n with h1 | h1
    · rw [range_findSome f n i h1 hj x hx]; rfl
    · obtain rfl : i = n := by omega
      have : (List.range i).findSome? f = none := by
        rw [List.findSome?_eq_none_iff]
        intro j h2
        exact hj j (by simpa using h2)
      rw [this]
      simp [hx]
theorem newE_at {l : Secs} (h : l.length ≤ 64) (i : Nat) (hi : i < l.length) (hj : ∀ j, j < i → secE l j = none) (e : Int) (he : secE l i = some e) : newE l = some (e, i) := by
  unfold newE
  rw [if_neg (by omega)]
  exact range_findSome _ _ i hi (fun j h2 => by rw [hj j h2]; rfl) _ (by rw [he]; rfl)
theorem newE_ok {l : Secs} (h : l.length ≤ 64) (hj : ∀ j, j < l.length → secE l j = none) : newE l = none := by
  unfold newE
  rw [if_neg (by omega), List.findSome?_eq_none_iff]
  intro j h2
  rw [hj j (by simpa using h2)]; rfl
theorem newE_none {l : Secs} (h : newE l = none) : l.length ≤ 64 ∧ ∀ j, j < l.length → secE l j = none := by
  unfold newE at h
  by_cases h1 : 64 < l.length
  · rw [if_pos h1] at h; cases h
  · rw [if_neg h1, List.findSome?_eq_none_iff] at h
    refine ⟨by omega, fun j hj => ?_⟩
    have := h j (by simpa using hj)
    simpa using this
theorem take_push (l : Secs) (k : Nat) (h : k < l.length) : l.take (k + 1) = l.take k ++ [((l.getD k (0, [])).1, (l.getD k (0, [])).2)] := by
  rw [List.take_add_one, List.getElem?_eq_getElem h, List.getD_eq_getElem?_getD, List.getElem?_eq_getElem h]; rfl

/-- Secrets that are handed in. -/
structure SecIn (w : World) (B off : Nat) (vs : List Value) (l : Secs) : Prop where
  key : ∀ i, i < l.length → w.cell? ⟨B, off + i * 2, none⟩ = some (.int .i64 (l.getD i (0, [])).1)
  sl : ∀ i, i < l.length → w.cell? ⟨B, off + i * 2 + 1, none⟩ = some (vs.getD i undef)
  bytes : ∀ i, i < l.length → ∃ bo c, vs.getD i undef = .slice bo (l.getD i (0, [])).2.length c ∧ IsB w bo (l.getD i (0, [])).2 ∧ (l.getD i (0, [])).2.length ≤ c ∧ (bo = none → c = 0)
theorem SecIn.keep {w w' : World} {B off : Nat} {vs : List Value} {l : Secs} (h : SecIn w B off vs l) (hb : Below w.heap.size w w') : SecIn w' B off vs l where
  key i hi := (hb.cell (cell_lt (h.key i hi))).trans (h.key i hi)
  sl i hi := (hb.cell (cell_lt (h.sl i hi))).trans (h.sl i hi)
  bytes i hi := by
    obtain ⟨bo, c, e, hb2, h1, h2⟩ := h.bytes i hi
    exact ⟨bo, c, e, hb2.below hb (Nat.le_refl _), h1, h2⟩

theorem el_secs : ElT 22 57 2 32 (.agg #[.int .i64 0, .slice none 0 0]) := ⟨Tryz.underlying22, by kernel_rfl, rfl, by omega⟩

/-- While a secret is taken in. -/
structure NX (N : Nat) (W0 : World) (g : Nat) (ao : Option Addr) (cap : Nat) (vs : List Value) (l : Secs) (k : Int) (b : List By) (l16 l17 l18 l19 l22 : Bool) (x76 x77 x78 x79 : Value) (W : World) : Prop where
  c22 : l22 = true → l19 = true
  c19 : l19 = true → l18 = true
  c18 : l18 = true → l17 = true
  c17 : l17 = true → l16 = true
  bel : Below N W0 W
  pre : l19 = false → Below W0.heap.size W0 W
  e0 : l16 = false → Own W0.heap.size W (.slice (some ⟨W0.heap.size, 0, none⟩) 0 0) []
  p16 : l16 = true → l19 = false → ∃ bo c, x76 = .slice bo b.length c ∧ Own W0.heap.size W (.slice bo b.length c) b ∧ (l17 = true → x77 = .agg #[.int .i64 k, .slice bo b.length c]) ∧ (l18 = true → ∃ B, x78 = .slice (some ⟨B, 0, none⟩) 1 1 ∧ Row W B 57 [.int .i64 k, .slice bo b.length c])
  p19 : l19 = true → l22 = false → ∃ ao' cap' bo c w0, x79 = .slice ao' (l.length + 1) cap' ∧ RgO N w0 g ao cap vs l ∧ Own N w0 (.slice bo b.length c) b ∧ W.ownsRow N 57 2 (.slice ao' (l.length + 1) cap') (l.length + 1) (secCells l vs ++ [.int .i64 k, .slice bo b.length c]) ∧ w0.heap.size ≤ W.heap.size ∧ ∀ j, j < w0.heap.size → (∀ q, ao = some ⟨q, 0, none⟩ → j ≠ q) → W.heap[j]? = w0.heap[j]?
  p22 : l22 = true → ∃ ao' cap' vs', RgO N W g ao' cap' vs' (l ++ [(k, b)])
section
variable {N : Nat} {W0 : World} {g : Nat} {ao : Option Addr} {cap : Nat} {vs : List Value} {l : Secs} {k : Int} {b : List By} {l16 l17 l18 l19 l22 : Bool} {x76 x77 x78 x79 : Value} {W : World}
theorem ff {a b : Bool} (h : a = true → b = true) (hb : b = false) : a = false := by
  cases a with
  | false => rfl
  | true => rw [h rfl] at hb; cases hb
theorem NX.zero (hN : N ≤ W0.heap.size) (d : Dr (W0.alloc (.cells #[] 5)) W) (x76 x77 x78 x79 : Value) : NX N W0 g ao cap vs l k b false false false false false x76 x77 x78 x79 W := by
  have hb : Below W0.heap.size W0 (W0.alloc (.cells #[] 5)) := (Below.refl _ _).alloc (Nat.le_refl _) _
  have ho : Own W0.heap.size (W0.alloc (.cells #[] 5)) (.slice (some ⟨W0.heap.size, 0, none⟩) 0 0) [] := own_empty _ W0 (Nat.le_refl _) _ rfl
  obtain ⟨q, rfl⟩ := d
  exact ⟨fun h => (by cases h), fun h => (by cases h), fun h => (by cases h), fun h => (by cases h), Below.mono ⟨hb.os, hb.tape, hb.output, hb.size, hb.block⟩ hN, fun _ => ⟨hb.os, hb.tape, hb.output, hb.size, hb.block⟩, fun _ => ho, fun h => (by cases h), fun h => (by cases h), fun h => (by cases h)⟩
/-- The bytes are copied. -/
theorem NX.s16 (h : NX N W0 g ao cap vs l k b l16 l17 l18 l19 l22 x76 x77 x78 x79 W) (hN : N ≤ W0.heap.size) (h16 : l16 = false) {W2 : World} {bo : Option Addr} {c : Nat} (ho : Own W0.heap.size W2 (.slice bo b.length c) b) (hb : Below W0.heap.size W0 W2) : NX N W0 g ao cap vs l k b true l17 l18 l19 l22 (.slice bo b.length c) x77 x78 x79 W2 := by
  have h17 := ff h.c17 h16
  have h18 := ff h.c18 h17
  have h19 := ff h.c19 h18
  have h22 := ff h.c22 h19
  subst h17 h18 h19 h22
  exact ⟨fun h => (by cases h), fun h => (by cases h), fun h => (by cases h), fun h => (by cases h), hb.mono hN, fun _ => hb, fun h => (by cases h), fun _ _ => ⟨bo, c, rfl, ho, fun h => (by cases h), fun h => (by cases h)⟩, fun h => (by cases h), fun h => (by cases h)⟩
/-- The secret is made. -/
theorem NX.s17 (h : NX N W0 g ao cap vs l k b l16 l17 l18 l19 l22 x76 x77 x78 x79 W) (h16 : l16 = true) (h17 : l17 = false) : NX N W0 g ao cap vs l k b l16 true l18 l19 l22 x76 (.agg #[.int .i64 k, x76]) x78 x79 W := by
  have h18 := ff h.c18 h17
  have h19 := ff h.c19 h18
  have h22 := ff h.c22 h19
  subst h16 h18 h19 h22
  obtain ⟨bo, c, e, ho, _, _⟩ := h.p16 rfl rfl
  exact ⟨fun h => (by cases h), fun h => (by cases h), fun h => (by cases h), fun _ => rfl, h.bel, h.pre, fun h => (by cases h), fun _ _ => ⟨bo, c, e, ho, fun _ => by rw [e], fun h => (by cases h)⟩, fun h => (by cases h), fun h => (by cases h)⟩
theorem NX.v77 (h : NX N W0 g ao cap vs l k b l16 l17 l18 l19 l22 x76 x77 x78 x79 W) (h17 : l17 = true) (h18 : l18 = false) : ∃ bo c, x77 = .agg #[.int .i64 k, .slice bo b.length c] ∧ x76 = .slice bo b.length c := by
  have h19 := ff h.c19 h18
  obtain ⟨bo, c, e, ho, h1, _⟩ := h.p16 (h.c17 h17) h19
  exact ⟨bo, c, h1 h17, e⟩
/-- It stands in a row of its own. -/
theorem NX.s18 (h : NX N W0 g ao cap vs l k b l16 l17 l18 l19 l22 x76 x77 x78 x79 W) (hN : N ≤ W0.heap.size) (h17 : l17 = true) (h18 : l18 = false) {bo : Option Addr} {c : Nat} (e : x76 = .slice bo b.length c) (e7 : x77 = .agg #[.int .i64 k, .slice bo b.length c]) : NX N W0 g ao cap vs l k b l16 l17 true l19 l22 x76 x77 (.slice (some ⟨W.heap.size, 0, none⟩) 1 1) x79 (W.alloc (.cells #[.int .i64 k, .slice bo b.length c] 57)) := by
  have h19 := ff h.c19 h18
  have h22 := ff h.c22 h19
  have h16 := h.c17 h17
  subst h16 h17 h19 h22 e
  have hb : Below W.heap.size W (W.alloc (.cells #[.int .i64 k, .slice bo b.length c] 57)) := (Below.refl _ _).alloc (Nat.le_refl _) _
  obtain ⟨bo2, c2, e2, ho, _, _⟩ := h.p16 rfl rfl
  injection e2 with e2 _ e3
  subst e2 e3
  exact ⟨fun h => (by cases h), fun h => (by cases h), fun _ => rfl, fun _ => rfl, h.bel.trans (hb.mono (Nat.le_trans hN h.bel.size)), fun _ => (h.pre rfl).trans (hb.mono (h.pre rfl).size), fun h => (by cases h), fun _ _ => ⟨bo, c, rfl, ho.keep hb, fun _ => e7, fun _ => ⟨_, rfl, Row.at W 57 _ _ _ rfl rfl⟩⟩, fun h => (by cases h), fun h => (by cases h)⟩
/-- It is appended. -/
theorem NX.s19 (h : NX N W0 g ao cap vs l k b l16 l17 l18 l19 l22 x76 x77 x78 x79 W) (hN : N ≤ W0.heap.size) (h18 : l18 = true) (h19 : l19 = false) {bo : Option Addr} {c : Nat} (e : x76 = .slice bo b.length c) {W2 : World} {ao' : Option Addr} {cap' : Nat} (hr : RgO N W g ao cap vs l) (ho : Own W0.heap.size W (.slice bo b.length c) b)
    (h1 : W2.ownsRow N 57 2 (.slice ao' (l.length + 1) cap') (l.length + 1) (secCells l vs ++ [.int .i64 k, .slice bo b.length c])) (hb : Below N W0 W2) (hsz : W.heap.size ≤ W2.heap.size) (hk : ∀ j, j < W.heap.size → (∀ q, ao = some ⟨q, 0, none⟩ → j ≠ q) → W2.heap[j]? = W.heap[j]?) : NX N W0 g ao cap vs l k b l16 l17 l18 true l22 x76 x77 x78 (.slice ao' (l.length + 1) cap') W2 := by
  have h22 := ff h.c22 h19
  have h17 := h.c18 h18
  have h16 := h.c17 h17
  subst h16 h17 h18 h22
  exact ⟨fun h => (by cases h), fun _ => rfl, fun _ => rfl, fun _ => rfl, hb, fun h => (by cases h), fun h => (by cases h), fun _ h => (by cases h), fun _ _ => ⟨ao', cap', bo, c, W, rfl, hr, own_le ho hN, h1, hsz, hk⟩, fun h => (by cases h)⟩
theorem NX.row (h : NX N W0 g ao cap vs l k b l16 l17 l18 l19 l22 x76 x77 x78 x79 W) (h19 : l19 = true) (h22 : l22 = false) : Row W g 84 [.slice ao l.length cap] := by
  obtain ⟨ao', cap', bo, c, w0, e, r1, o1, w1, z1, k1⟩ := h.p19 h19 h22
  have hrow : w0.heap[g]? = some (.cells #[.slice ao l.length cap] 84 (0, 0)) := r1.row
  refine (k1 g r1.row.lt ?_).trans hrow
  intro q hq e
  subst e
  obtain ⟨cur2, h2⟩ := owns_ty r1.own g (by rw [hq]; rfl)
  rw [h2] at hrow
  injection hrow with hrow
  injection hrow with _ h3
  exact absurd h3 (by decide)
/-- What append answered is stored. -/
theorem NX.s22 (h : NX N W0 g ao cap vs l k b l16 l17 l18 l19 l22 x76 x77 x78 x79 W) (hg : N ≤ g) (h19 : l19 = true) (h22 : l22 = false) : NX N W0 g ao cap vs l k b l16 l17 l18 l19 true x76 x77 x78 x79 (W.setCell ⟨g, 0, none⟩ x79) := by
  have h18 := h.c19 h19
  have h17 := h.c18 h18
  have h16 := h.c17 h17
  subst h16 h17 h18 h19 h22
  obtain ⟨ao', cap', bo, c, w0, e, r1, o1, w1, z1, k1⟩ := h.p19 rfl rfl
  subst e
  exact ⟨fun _ => rfl, fun _ => rfl, fun _ => rfl, fun _ => rfl, (SameBut.setCell g 0 _ W).below h.bel hg, fun h => (by cases h), fun h => (by cases h), fun _ h => (by cases h), fun _ h => (by cases h), fun _ => ⟨ao', cap', _, r1.push k b bo c o1 w1 z1 k1 rfl⟩⟩
end

/-- append at a step of a drawn region. -/
theorem step_append_g {T e size bytes : Nat} {z : Value} (E : ElT T e size bytes z) {ops : Array Oper} {o : Oper} {a : Act} {w : World} {K : Act → World → Prop} {Q : Exit → Act → World → Prop} {X : Prop} (hgd : o.guard = none) (s x : Operand)
    (ho : o.op = .call { callee := .builtin .append, args := #[s, x], argTypes := #[T, T] })
    (N : Nat) (a0 : World) (aoD : Option Addr) (nD capD : Nat) (vs : List Value) (hs : a.eval s = .slice aoD nD capD) (hown : w.ownsRow N e size (.slice aoD nD capD) nD vs) (hN : N ≤ w.heap.size) (hbel : Below N a0 w)
    (B off n cap : Nat) (news : List Value) (hx : a.eval x = .slice (some ⟨B, off, none⟩) n cap) (hn : news.length = n * size) (hc : ∀ j u, news[j]? = some u → w.cell? ⟨B, off + j, none⟩ = some u) (h1 : ∀ u ∈ news, u.oneCell' = true) (hm : nD + n ≤ maxLen) (hl : (nD + n) * bytes ≤ 140737488355328)
    (h : ∀ ao' cap' w', w'.ownsRow N e size (.slice ao' (nD + n) cap') (nD + n) (vs ++ news) → Below N a0 w' → w.heap.size ≤ w'.heap.size → (∀ k, k < w.heap.size → (∀ g, aoD = some ⟨g, 0, none⟩ → k ≠ g) → w'.heap[k]? = w.heap[k]?) → K (a.put o.dst (.slice ao' (nD + n) cap')) w') : if Region.wanted o (yielded ops a.tmps) = true then Oper.wp Tryz.prog o a w K Q else X := by
  have hw : Region.wanted o (yielded ops a.tmps) = true := by simp [Region.wanted, hgd]
  rw [if_pos hw]
  obtain ⟨ao', cap', w', hrun, h2, h3, h4, h5⟩ := run_append_gen E N a0 w o.type aoD nD capD vs hown hN hbel (some ⟨B, off, none⟩) n cap news hn (.inr ⟨B, off, rfl, hc⟩) h1 (by simp) hm hl
  unfold Oper.wp execOp
  simp only [ho, resolve, invoke, builtin, Sem.run_bind, Sem.run_pure, Result.andThen_ok, List.map_toArray, List.map_cons, List.map_nil, hs, hx, hrun]
  exact h ao' cap' w' h2 h3 h4 h5
structure N14 (W1 : World) (N : Nat) (W0 : World) (g : Nat) (ao : Option Addr) (cap : Nat) (vs : List Value) (l : Secs) (k : Int) (b : List By) (B off n cp ki bc : Nat) (bo : Option Addr) (L : Nat → Bool) (x60 x61 x62 x63 x64 x65 x66 x67 x68 x69 x70 x71 x72 x73 x74 x75 x76 x77 x78 x79 x80 x81 : Value) (W : World) : Prop where
  x : NX N W0 g ao cap vs l k b (L 16) (L 17) (L 18) (L 19) (L 22) x76 x77 x78 x79 W
  p0 : L 0 = true → x60 = .pointer (some ⟨g, 0, none⟩)
  p1 : L 1 = true → x61 = .pointer (some ⟨g, 0, none⟩)
  p2 : L 2 = true → x62 = .pointer (some ⟨g, 0, none⟩)
  p3 : L 3 = true → x63 = .pointer (some ⟨g, 0, none⟩)
  p4 : L 4 = true → x64 = .slice ao l.length cap
  p5 : L 5 = true → x65 = .slice (some ⟨B, off, none⟩) n cp
  p6 : L 6 = true → x66 = .int .i64 (ki : Int)
  p7 : L 7 = true → x67 = .pointer (some ⟨B, off + ki * 2, none⟩)
  p8 : L 8 = true → x68 = .pointer (some ⟨B, off + ki * 2, none⟩)
  p9 : L 9 = true → x69 = .int .i64 k
  p10 : L 10 = true → x70 = .slice (some ⟨W0.heap.size, 0, none⟩) 0 0
  p11 : L 11 = true → x71 = .slice (some ⟨B, off, none⟩) n cp
  p12 : L 12 = true → x72 = .int .i64 (ki : Int)
  p13 : L 13 = true → x73 = .pointer (some ⟨B, off + ki * 2, none⟩)
  p14 : L 14 = true → x74 = .pointer (some ⟨B, off + ki * 2 + 1, none⟩)
  p15 : L 15 = true → x75 = .slice bo b.length bc
  p20 : L 20 = true → x80 = .pointer (some ⟨g, 0, none⟩)
  p21 : L 21 = true → x81 = .pointer (some ⟨g, 0, none⟩)
  c19_4 : L 19 = true → L 4 = true
section
variable {W1 : World} {N : Nat} {W0 : World} {g : Nat} {ao : Option Addr} {cap : Nat} {vs : List Value} {l : Secs} {k : Int} {b : List By} {B off n cp ki bc : Nat} {bo : Option Addr} {L : Nat → Bool} {x60 x61 x62 x63 x64 x65 x66 x67 x68 x69 x70 x71 x72 x73 x74 x75 x76 x77 x78 x79 x80 x81 : Value} {W W2 : World}
theorem N14.s0 (h : N14 W1 N W0 g ao cap vs l k b B off n cp ki bc bo L x60 x61 x62 x63 x64 x65 x66 x67 x68 x69 x70 x71 x72 x73 x74 x75 x76 x77 x78 x79 x80 x81 W) : N14 W1 N W0 g ao cap vs l k b B off n cp ki bc bo (upd L 0) (.pointer (some ⟨g, 0, none⟩)) x61 x62 x63 x64 x65 x66 x67 x68 x69 x70 x71 x72 x73 x74 x75 x76 x77 x78 x79 x80 x81 W :=
  ⟨h.x, fun _ => rfl, h.p1, h.p2, h.p3, h.p4, h.p5, h.p6, h.p7, h.p8, h.p9, h.p10, h.p11, h.p12, h.p13, h.p14, h.p15, h.p20, h.p21, h.c19_4⟩
theorem N14.s1 (h : N14 W1 N W0 g ao cap vs l k b B off n cp ki bc bo L x60 x61 x62 x63 x64 x65 x66 x67 x68 x69 x70 x71 x72 x73 x74 x75 x76 x77 x78 x79 x80 x81 W) : N14 W1 N W0 g ao cap vs l k b B off n cp ki bc bo (upd L 1) x60 (.pointer (some ⟨g, 0, none⟩)) x62 x63 x64 x65 x66 x67 x68 x69 x70 x71 x72 x73 x74 x75 x76 x77 x78 x79 x80 x81 W :=
  ⟨h.x, h.p0, fun _ => rfl, h.p2, h.p3, h.p4, h.p5, h.p6, h.p7, h.p8, h.p9, h.p10, h.p11, h.p12, h.p13, h.p14, h.p15, h.p20, h.p21, h.c19_4⟩
theorem N14.s16 (h : N14 W1 N W0 g ao cap vs l k b B off n cp ki bc bo L x60 x61 x62 x63 x64 x65 x66 x67 x68 x69 x70 x71 x72 x73 x74 x75 x76 x77 x78 x79 x80 x81 W) {v : Value} (hX : NX N W0 g ao cap vs l k b ((upd L 16) 16) ((upd L 16) 17) ((upd L 16) 18) ((upd L 16) 19) ((upd L 16) 22) v x77 x78 x79 W2) : N14 W1 N W0 g ao cap vs l k b B off n cp ki bc bo (upd L 16) x60 x61 x62 x63 x64 x65 x66 x67 x68 x69 x70 x71 x72 x73 x74 x75 v x77 x78 x79 x80 x81 W2 :=
  ⟨hX, h.p0, h.p1, h.p2, h.p3, h.p4, h.p5, h.p6, h.p7, h.p8, h.p9, h.p10, h.p11, h.p12, h.p13, h.p14, h.p15, h.p20, h.p21, h.c19_4⟩
theorem N14.s17 (h : N14 W1 N W0 g ao cap vs l k b B off n cp ki bc bo L x60 x61 x62 x63 x64 x65 x66 x67 x68 x69 x70 x71 x72 x73 x74 x75 x76 x77 x78 x79 x80 x81 W) {v : Value} (hX : NX N W0 g ao cap vs l k b ((upd L 17) 16) ((upd L 17) 17) ((upd L 17) 18) ((upd L 17) 19) ((upd L 17) 22) x76 v x78 x79 W2) : N14 W1 N W0 g ao cap vs l k b B off n cp ki bc bo (upd L 17) x60 x61 x62 x63 x64 x65 x66 x67 x68 x69 x70 x71 x72 x73 x74 x75 x76 v x78 x79 x80 x81 W2 :=
  ⟨hX, h.p0, h.p1, h.p2, h.p3, h.p4, h.p5, h.p6, h.p7, h.p8, h.p9, h.p10, h.p11, h.p12, h.p13, h.p14, h.p15, h.p20, h.p21, h.c19_4⟩
theorem N14.s18 (h : N14 W1 N W0 g ao cap vs l k b B off n cp ki bc bo L x60 x61 x62 x63 x64 x65 x66 x67 x68 x69 x70 x71 x72 x73 x74 x75 x76 x77 x78 x79 x80 x81 W) {v : Value} (hX : NX N W0 g ao cap vs l k b ((upd L 18) 16) ((upd L 18) 17) ((upd L 18) 18) ((upd L 18) 19) ((upd L 18) 22) x76 x77 v x79 W2) : N14 W1 N W0 g ao cap vs l k b B off n cp ki bc bo (upd L 18) x60 x61 x62 x63 x64 x65 x66 x67 x68 x69 x70 x71 x72 x73 x74 x75 x76 x77 v x79 x80 x81 W2 :=
  ⟨hX, h.p0, h.p1, h.p2, h.p3, h.p4, h.p5, h.p6, h.p7, h.p8, h.p9, h.p10, h.p11, h.p12, h.p13, h.p14, h.p15, h.p20, h.p21, h.c19_4⟩
theorem N14.s19 (h : N14 W1 N W0 g ao cap vs l k b B off n cp ki bc bo L x60 x61 x62 x63 x64 x65 x66 x67 x68 x69 x70 x71 x72 x73 x74 x75 x76 x77 x78 x79 x80 x81 W) {v : Value} (hX : NX N W0 g ao cap vs l k b ((upd L 19) 16) ((upd L 19) 17) ((upd L 19) 18) ((upd L 19) 19) ((upd L 19) 22) x76 x77 x78 v W2) (hc4 : L 4 = true) : N14 W1 N W0 g ao cap vs l k b B off n cp ki bc bo (upd L 19) x60 x61 x62 x63 x64 x65 x66 x67 x68 x69 x70 x71 x72 x73 x74 x75 x76 x77 x78 v x80 x81 W2 :=
  ⟨hX, h.p0, h.p1, h.p2, h.p3, h.p4, h.p5, h.p6, h.p7, h.p8, h.p9, h.p10, h.p11, h.p12, h.p13, h.p14, h.p15, h.p20, h.p21, fun _ => hc4⟩
theorem N14.s22 (h : N14 W1 N W0 g ao cap vs l k b B off n cp ki bc bo L x60 x61 x62 x63 x64 x65 x66 x67 x68 x69 x70 x71 x72 x73 x74 x75 x76 x77 x78 x79 x80 x81 W) (hX : NX N W0 g ao cap vs l k b ((upd L 22) 16) ((upd L 22) 17) ((upd L 22) 18) ((upd L 22) 19) ((upd L 22) 22) x76 x77 x78 x79 W2) : N14 W1 N W0 g ao cap vs l k b B off n cp ki bc bo (upd L 22) x60 x61 x62 x63 x64 x65 x66 x67 x68 x69 x70 x71 x72 x73 x74 x75 x76 x77 x78 x79 x80 x81 W2 :=
  ⟨hX, h.p0, h.p1, h.p2, h.p3, h.p4, h.p5, h.p6, h.p7, h.p8, h.p9, h.p10, h.p11, h.p12, h.p13, h.p14, h.p15, h.p20, h.p21, h.c19_4⟩
end
@[reducible] def IN14 (W1 : World) (N : Nat) (W0 : World) (g : Nat) (ao : Option Addr) (cap : Nat) (vs : List Value) (l : Secs) (k : Int) (b : List By) (B off n cp ki bc : Nat) (bo : Option Addr) (y0 y1 y2 y3 y4 y5 y6 y7 y8 y9 y10 y11 y12 y13 y14 y15 y16 y17 y18 y19 y20 y21 y22 y23 y24 y25 y26 y27 y28 y29 y30 y31 y32 y33 y34 y35 y36 y37 y38 y39 y40 y41 y42 y43 y44 y45 y46 y47 y48 y49 y50 y51 y52 y53 y54 y55 y56 y57 y58 y59 y82 : Value) : (Nat → Bool) → Act → World → Prop := fun L a W => ∃ x60 x61 x62 x63 x64 x65 x66 x67 x68 x69 x70 x71 x72 x73 x74 x75 x76 x77 x78 x79 x80 x81, a = ⟨#[y0, y1, y2, y3, y4, y5, y6, y7, y8, y9, y10, y11, y12, y13, y14, y15, y16, y17, y18, y19, y20, y21, y22, y23, y24, y25, y26, y27, y28, y29, y30, y31, y32, y33, y34, y35, y36, y37, y38, y39, y40, y41, y42, y43, y44, y45, y46, y47, y48, y49, y50, y51, y52, y53, y54, y55, y56, y57, y58, y59, x60, x61, x62, x63, x64, x65, x66, x67, x68, x69, x70, x71, x72, x73, x74, x75, x76, x77, x78, x79, x80, x81, y82], []⟩ ∧ N14 W1 N W0 g ao cap vs l k b B off n cp ki bc bo L x60 x61 x62 x63 x64 x65 x66 x67 x68 x69 x70 x71 x72 x73 x74 x75 x76 x77 x78 x79 x80 x81 W
theorem N14.step {W1 : World} {N : Nat} {W0 : World} {g : Nat} {ao : Option Addr} {cap : Nat} {vs : List Value} {l : Secs} {k : Int} {b : List By} {B off n cp ki bc : Nat} {bo : Option Addr} {y0 y1 y2 y3 y4 y5 y6 y7 y8 y9 y10 y11 y12 y13 y14 y15 y16 y17 y18 y19 y20 y21 y22 y23 y24 y25 y26 y27 y28 y29 y30 y31 y32 y33 y34 y35 y36 y37 y38 y39 y40 y41 y42 y43 y44 y45 y46 y47 y48 y49 y50 y51 y52 y53 y54 y55 y56 y57 y58 y59 y82 : Value} {P : Program} {ops : Array Oper} {Q : Exit → Act → World → Prop} {i : Nat} {o : Oper} (hq : ∀ x60 x61 x62 x63 x64 x65 x66 x67 x68 x69 x70 x71 x72 x73 x74 x75 x76 x77 x78 x79 x80 x81 (L : Nat → Bool) (W : World), N14 W1 N W0 g ao cap vs l k b B off n cp ki bc bo L x60 x61 x62 x63 x64 x65 x66 x67 x68 x69 x70 x71 x72 x73 x74 x75 x76 x77 x78 x79 x80 x81 W → L i = false → (∀ j ∈ onesOf o, L j = true) → ∀ K : Act → World → Prop, Shut (∀ a' w', IN14 W1 N W0 g ao cap vs l k b B off n cp ki bc bo y0 y1 y2 y3 y4 y5 y6 y7 y8 y9 y10 y11 y12 y13 y14 y15 y16 y17 y18 y19 y20 y21 y22 y23 y24 y25 y26 y27 y28 y29 y30 y31 y32 y33 y34 y35 y36 y37 y38 y39 y40 y41 y42 y43 y44 y45 y46 y47 y48 y49 y50 y51 y52 y53 y54 y55 y56 y57 y58 y59 y82 (upd L i) a' w' → K a' w') → if Region.wanted o (yielded ops (⟨#[y0, y1, y2, y3, y4, y5, y6, y7, y8, y9, y10, y11, y12, y13, y14, y15, y16, y17, y18, y19, y20, y21, y22, y23, y24, y25, y26, y27, y28, y29, y30, y31, y32, y33, y34, y35, y36, y37, y38, y39, y40, y41, y42, y43, y44, y45, y46, y47, y48, y49, y50, y51, y52, y53, y54, y55, y56, y57, y58, y59, x60, x61, x62, x63, x64, x65, x66, x67, x68, x69, x70, x71, x72, x73, x74, x75, x76, x77, x78, x79, x80, x81, y82], []⟩ : Act).tmps) = true then Oper.wp P o ⟨#[y0, y1, y2, y3, y4, y5, y6, y7, y8, y9, y10, y11, y12, y13, y14, y15, y16, y17, y18, y19, y20, y21, y22, y23, y24, y25, y26, y27, y28, y29, y30, y31, y32, y33, y34, y35, y36, y37, y38, y39, y40, y41, y42, y43, y44, y45, y46, y47, y48, y49, y50, y51, y52, y53, y54, y55, y56, y57, y58, y59, x60, x61, x62, x63, x64, x65, x66, x67, x68, x69, x70, x71, x72, x73, x74, x75, x76, x77, x78, x79, x80, x81, y82], []⟩ W K Q else K ((⟨#[y0, y1, y2, y3, y4, y5, y6, y7, y8, y9, y10, y11, y12, y13, y14, y15, y16, y17, y18, y19, y20, y21, y22, y23, y24, y25, y26, y27, y28, y29, y30, y31, y32, y33, y34, y35, y36, y37, y38, y39, y40, y41, y42, y43, y44, y45, y46, y47, y48, y49, y50, y51, y52, y53, y54, y55, y56, y57, y58, y59, x60, x61, x62, x63, x64, x65, x66, x67, x68, x69, x70, x71, x72, x73, x74, x75, x76, x77, x78, x79, x80, x81, y82], []⟩ : Act).put o.dst undef) W) : StepI P ops (IN14 W1 N W0 g ao cap vs l k b B off n cp ki bc bo y0 y1 y2 y3 y4 y5 y6 y7 y8 y9 y10 y11 y12 y13 y14 y15 y16 y17 y18 y19 y20 y21 y22 y23 y24 y25 y26 y27 y28 y29 y30 y31 y32 y33 y34 y35 y36 y37 y38 y39 y40 y41 y42 y43 y44 y45 y46 y47 y48 y49 y50 y51 y52 y53 y54 y55 y56 y57 y58 y59 y82) Q i o := by
  rintro L a W ⟨x60, x61, x62, x63, x64, x65, x66, x67, x68, x69, x70, x71, x72, x73, x74, x75, x76, x77, x78, x79, x80, x81, rfl, h⟩
  exact hq _ _ _ _ _ _ _ _ _ _ _ _ _ _ _ _ _ _ _ _ _ _ _ _ h
/-- A ring of the first secrets, while a New goes on. -/
def RgS (N : Nat) (w wr : World) (g : Nat) (l : Secs) : Prop := (∃ ao cap vs, RgO N wr g ao cap vs l) ∧ Below N w wr

/-- What New answers. -/
def RNewPost (l : Secs) (w : World) (e : Ending) (w' : World) : Prop := Below w.heap.size w w' ∧ ((∃ (er : Int) (i : Nat), newE l = some (er, i) ∧ e = .returned (.tuple #[.pointer none, .int .i64 er, .int .i64 i])) ∨
  newE l = none ∧ ∃ ao' cap' vs', e = .returned (.tuple #[.pointer (some ⟨w.heap.size, 0, none⟩), .int .i64 0, .int .i64 0]) ∧ RgO w.heap.size w' w.heap.size ao' cap' vs' l)
set_option maxHeartbeats 2000000 in
set_option maxRecDepth 100000 in
theorem rnew_any (w : World) (ao : Option Addr) (n cap B off : Nat) (vs : List Value) (l : Secs) (hn : l.length = n) (hao : 0 < n → ao = some ⟨B, off, none⟩) (hin : SecIn w B off vs l) :
    Calls Tryz.prog 9 #[.slice ao n cap] w (RNewPost l w) := by
  by_cases h64 : 64 < n
  · have HE : Hid (newE l = some (3, 64)) := newE_many (by omega)
    have i1 : (64 : Int) < (n : Int) := by omega
    clear hin hao
    go_enter Tryz.func9, Tryz.ntmps9
    go_wp2
    go_ret3
    exact ⟨Below.refl _ _, .inl ⟨3, 64, HE.out, rfl⟩⟩
  · have i1 : ¬ (64 : Int) < (n : Int) := by omega
    have HL : Hid (l.length ≤ 64) := (by omega : l.length ≤ 64)
    have HN : Hid (l.length = n) := hn
    have r0 : Hid (RgS w.heap.size w (w.alloc (.cells #[.slice none 0 0] 84)) w.heap.size (l.take 0)) := ⟨⟨none, 0, [], RgO.new _ w (Nat.le_refl _)⟩, (Below.refl _ _).alloc (Nat.le_refl _) _⟩
    clear h64 hn
    go_enter Tryz.func9, Tryz.ntmps9
    go_wp2
    go_loopw [6] (fun iv wr => ∃ k : Nat, k ≤ n ∧ iv = .int .i64 k ∧ Hid (∀ j, j < k → secE l j = none) ∧ Hid (RgS w.heap.size w wr w.heap.size (l.take k))) (fun iv _ => n - (intOf iv).toNat)
    case atStart => exact ⟨0, by omega, rfl, fun _ hi => absurd hi (by omega), r0⟩
    case round =>
      clear r0
      obtain ⟨k, hk, rfl, HJ, HR⟩ := hrel
      by_cases hlt : k < n
      · obtain rfl := hao (by omega)
        have y0 : (0 : Int) ≤ (k : Int) := by omega
        have y1 : (k : Int) < (n : Int) := by omega
        have hkl : k < l.length := by rw [HN.out]; exact hlt
        have HKL : Hid (k < l.length) := hkl
        obtain ⟨bo, bc, e0, hbb, hbc, hbn⟩ := hin.bytes k hkl
        have HIN := hin.key k hkl
        have HIS := hin.sl k hkl
        rw [e0] at HIS
        have hB : B < w.heap.size := cell_lt HIN
        have HC0 : Hid (∀ W, Below w.heap.size w W → W.cell? ⟨B, off + k * 2, none⟩ = some (.int .i64 (l.getD k (0, [])).1)) := fun W h => (h.cell hB).trans HIN
        have HC1 : Hid (∀ W, Below w.heap.size w W → W.cell? ⟨B, off + k * 2 + 1, none⟩ = some (.slice bo (l.getD k (0, [])).2.length bc)) := fun W h => (h.cell hB).trans HIS
        have HB : Hid (∀ W, Below w.heap.size w W → IsB W bo (l.getD k (0, [])).2 ∧ (bo = none → bc = 0)) := fun W h => ⟨hbb.below h (Nat.le_refl _), hbn⟩
        have HS : Hid (secE l k = if (l.getD k (0, [])).1 < 0 ∨ 63 < (l.getD k (0, [])).1 then some 2 else if (l.getD k (0, [])).2.length < 1 ∨ 256 < (l.getD k (0, [])).2.length then some 4 else if (fnd (l.take k) (l.getD k (0, [])).1).isSome then some 18 else none) := rfl
        have HP : Hid (l.take (k + 1) = l.take k ++ [((l.getD k (0, [])).1, (l.getD k (0, [])).2)]) := take_push l k hkl
        have HE : Hid (∀ e, secE l k = some e → newE l = some (e, k)) := fun e he => newE_at HL.out k hkl HJ.out e he
        have hc0 := HC0.out wr HR.out.2
        have hc1 := HC1.out wr HR.out.2
        clear hin hbb hbc hbn e0 HIN HIS hB hkl hao
        generalize (l.getD k (0, [])).1 = kk at *
        generalize (l.getD k (0, [])).2 = bb at *
        by_cases hk0 : kk < 0
        · have HE2 : Hid (newE l = some (2, k)) := HE.out 2 (by rw [HS.out, if_pos (.inl hk0)])
          go_wp2
          go_ret3
          exact ⟨HR.out.2, .inl ⟨2, k, HE2.out, rfl⟩⟩
        by_cases hk1 : 63 < kk
        · have HE2 : Hid (newE l = some (2, k)) := HE.out 2 (by rw [HS.out, if_pos (.inr hk1)])
          go_wp2
          go_ret3
          exact ⟨HR.out.2, .inl ⟨2, k, HE2.out, rfl⟩⟩
        have HS2 : Hid (secE l k = if bb.length < 1 ∨ 256 < bb.length then some 4 else if (fnd (l.take k) kk).isSome then some 18 else none) := by
          show _ = _
          rw [HS.out, if_neg (by omega)]
        by_cases hb0 : bb.length < 1
        · have HE2 : Hid (newE l = some (4, k)) := HE.out 4 (by rw [HS2.out, if_pos (.inl hb0)])
          have z1 : ((bb.length : Nat) : Int) < 1 := by omega
          clear hb0 HS HS2
          go_wp2
          go_ret3
          exact ⟨HR.out.2, .inl ⟨4, k, HE2.out, rfl⟩⟩
        have z1 : ¬ ((bb.length : Nat) : Int) < 1 := by omega
        by_cases hb1 : 256 < bb.length
        · have HE2 : Hid (newE l = some (4, k)) := HE.out 4 (by rw [HS2.out, if_pos (.inr hb1)])
          have z2 : (256 : Int) < ((bb.length : Nat) : Int) := by omega
          clear hb0 hb1 HS HS2
          go_wp2
          go_ret3
          exact ⟨HR.out.2, .inl ⟨4, k, HE2.out, rfl⟩⟩
        have z2 : ¬ (256 : Int) < ((bb.length : Nat) : Int) := by omega
        have HS3 : Hid (secE l k = if (fnd (l.take k) kk).isSome then some 18 else none) := by
          show _ = _
          rw [HS2.out, if_neg (by omega)]
        have HLEN : Hid (bb.length ≤ 256) := (by omega : bb.length ≤ 256)
        obtain ⟨⟨ro, rc, rv, hro⟩, hbw⟩ := HR.out
        have HRR : Hid (RgO w.heap.size wr w.heap.size ro rc rv (l.take k)) := hro
        have HBW : Hid (Below w.heap.size w wr) := hbw
        have hlk : (l.take k).length ≤ 64 := by
          have := HL.out
          rw [List.length_take]; omega
        have HAS : Hid (Calls Tryz.prog 27 #[.pointer (some ⟨w.heap.size, 0, none⟩), .int .i64 kk] wr fun e w' => e = .returned (.bool (fnd (l.take k) kk).isSome) ∧ w' = wr) := rhas_any wr w.heap.size ro rc rv (l.take k) hro.to hlk kk
        clear hb0 hb1 HS HS2 hro hbw HR hlk
        have HR : Hid (RgO w.heap.size wr w.heap.size ro rc rv (l.take k)) := HRR
        clear HRR
        go_wp2_with fail
        refine HAS.out.mono ?_
        rintro e W0 ⟨rfl, rfl⟩
        cases hs : (fnd (l.take k) kk).isSome with
        | true =>
          have HE2 : Hid (newE l = some (18, k)) := HE.out 18 (by rw [HS3.out, hs]; rfl)
          clear hs HAS
          go_wp2
          go_ret3
          exact ⟨HBW.out, .inl ⟨18, k, HE2.out, rfl⟩⟩
        | false =>
          have HSN : Hid (∀ j, j < k + 1 → secE l j = none) := by
            intro j hj
            rcases Nat.lt_or_ge j k with h1 | h1
            · exact HJ.out j h1
            · obtain rfl : j = k := by omega
              rw [HS3.out, hs]; rfl
          have HNW : Hid (w.heap.size ≤ W0.heap.size) := HBW.out.size
          have HD0 : Hid (∀ W, Below w.heap.size W0 W → W.cell? ⟨B, off + k * 2, none⟩ = some (.int .i64 kk)) := fun W h => HC0.out W (HBW.out.trans h)
          have HD1 : Hid (∀ W, Below w.heap.size W0 W → W.cell? ⟨B, off + k * 2 + 1, none⟩ = some (.slice bo bb.length bc)) := fun W h => HC1.out W (HBW.out.trans h)
          have HDB : Hid (∀ W, Below w.heap.size W0 W → IsB W bo bb ∧ (bo = none → bc = 0)) := fun W h => HB.out W (HBW.out.trans h)
          have HL64 : Hid ((l.take k).length ≤ 64) := by
            show _ ≤ _
            have := HL.out
            rw [List.length_take]; omega
          clear hs HAS HS3 HE HC0 HC1 HB HJ hc0 hc1
          have HZ : Hid (∀ x76 x77 x78 x79, NX w.heap.size W0 w.heap.size ro rc rv (l.take k) kk bb false false false false false x76 x77 x78 x79 (W0.alloc (.cells #[] 5)).drew) := fun _ _ _ _ => NX.zero HNW.out ⟨1, rfl⟩ _ _ _ _
          clear HL HKL
          generalize hT : l.take k = tk at *
          clear hT
          go_wp2_with fail
          refine wp_region_inv (IN14 W0 w.heap.size W0 w.heap.size ro rc rv tk kk bb B off n cap k bc bo _ _ _ _ _ _ _ _ _ _ _ _ _ _ _ _ _ _ _ _ _ _ _ _ _ _ _ _ _ _ _ _ _ _ _ _ _ _ _ _ _ _ _ _ _ _ _ _ _ _ _ _ _ _ _ _ _ _ _ _ _) (by kernel_rfl) (by kernel_rfl) ⟨_, _, _, _, _, _, _, _, _, _, _, _, _, _, _, _, _, _, _, _, _, _, rfl, ⟨HZ.out _ _ _ _, fun k => (by cases k), fun k => (by cases k), fun k => (by cases k), fun k => (by cases k), fun k => (by cases k), fun k => (by cases k), fun k => (by cases k), fun k => (by cases k), fun k => (by cases k), fun k => (by cases k), fun k => (by cases k), fun k => (by cases k), fun k => (by cases k), fun k => (by cases k), fun k => (by cases k), fun k => (by cases k), fun k => (by cases k), fun k => (by cases k), fun k => (by cases k)⟩⟩ ?_ ?_
          · refine .cons ?_ (.cons ?_ (.cons ?_ (.cons ?_ (.cons ?_ (.cons ?_ (.cons ?_ (.cons ?_ (.cons ?_ (.cons ?_ (.cons ?_ (.cons ?_ (.cons ?_ (.cons ?_ (.cons ?_ (.cons ?_ (.cons ?_ (.cons ?_ (.cons ?_ (.cons ?_ (.cons ?_ (.cons ?_ (.cons ?_ .nil))))))))))))))))))))))
            all_goals (refine N14.step ?_; intro x60 x61 x62 x63 x64 x65 x66 x67 x68 x69 x70 x71 x72 x73 x74 x75 x76 x77 x78 x79 x80 x81 L W hI hL hd K hK)
            · rw [if_pos (by rfl)]
              go_simp
              exact hK.out _ _ ⟨_, _, _, _, _, _, _, _, _, _, _, _, _, _, _, _, _, _, _, _, _, _, rfl, { hI with p0 := fun _ => rfl }⟩
            · rw [if_pos (by rfl)]
              go_simp
              exact hK.out _ _ ⟨_, _, _, _, _, _, _, _, _, _, _, _, _, _, _, _, _, _, _, _, _, _, rfl, { hI with p1 := fun _ => rfl }⟩
            · obtain rfl := hI.p1 (hd 1 (by decide))
              rw [if_pos (by rfl)]
              go_simp
              exact hK.out _ _ ⟨_, _, _, _, _, _, _, _, _, _, _, _, _, _, _, _, _, _, _, _, _, _, rfl, { hI with p2 := fun _ => rfl }⟩
            · obtain rfl := hI.p2 (hd 2 (by decide))
              rw [if_pos (by rfl)]
              go_simp
              exact hK.out _ _ ⟨_, _, _, _, _, _, _, _, _, _, _, _, _, _, _, _, _, _, _, _, _, _, rfl, { hI with p3 := fun _ => rfl }⟩
            · obtain rfl := hI.p3 (hd 3 (by decide))
              rw [if_pos (by rfl)]
              have h4 : L 19 = false := ff hI.c19_4 hL
              have hc := (HR.out.keep (hI.x.pre h4)).row.cell 0 _ rfl
              go_simp
              exact hK.out _ _ ⟨_, _, _, _, _, _, _, _, _, _, _, _, _, _, _, _, _, _, _, _, _, _, rfl, { hI with p4 := fun _ => rfl, c19_4 := fun _ => rfl }⟩
            · rw [if_pos (by rfl)]
              go_simp
              exact hK.out _ _ ⟨_, _, _, _, _, _, _, _, _, _, _, _, _, _, _, _, _, _, _, _, _, _, rfl, { hI with p5 := fun _ => rfl }⟩
            · rw [if_pos (by rfl)]
              go_simp
              exact hK.out _ _ ⟨_, _, _, _, _, _, _, _, _, _, _, _, _, _, _, _, _, _, _, _, _, _, rfl, { hI with p6 := fun _ => rfl }⟩
            · obtain rfl := hI.p5 (hd 5 (by decide))
              obtain rfl := hI.p6 (hd 6 (by decide))
              rw [if_pos (by rfl)]
              go_simp
              exact hK.out _ _ ⟨_, _, _, _, _, _, _, _, _, _, _, _, _, _, _, _, _, _, _, _, _, _, rfl, { hI with p7 := fun _ => rfl }⟩
            · obtain rfl := hI.p7 (hd 7 (by decide))
              rw [if_pos (by rfl)]
              go_simp
              exact hK.out _ _ ⟨_, _, _, _, _, _, _, _, _, _, _, _, _, _, _, _, _, _, _, _, _, _, rfl, { hI with p8 := fun _ => rfl }⟩
            · obtain rfl := hI.p8 (hd 8 (by decide))
              rw [if_pos (by rfl)]
              have hc := HD0.out _ hI.x.bel
              go_simp
              exact hK.out _ _ ⟨_, _, _, _, _, _, _, _, _, _, _, _, _, _, _, _, _, _, _, _, _, _, rfl, { hI with p9 := fun _ => rfl }⟩
            · rw [if_pos (by rfl)]
              go_simp
              exact hK.out _ _ ⟨_, _, _, _, _, _, _, _, _, _, _, _, _, _, _, _, _, _, _, _, _, _, rfl, { hI with p10 := fun _ => rfl }⟩
            · rw [if_pos (by rfl)]
              go_simp
              exact hK.out _ _ ⟨_, _, _, _, _, _, _, _, _, _, _, _, _, _, _, _, _, _, _, _, _, _, rfl, { hI with p11 := fun _ => rfl }⟩
            · rw [if_pos (by rfl)]
              go_simp
              exact hK.out _ _ ⟨_, _, _, _, _, _, _, _, _, _, _, _, _, _, _, _, _, _, _, _, _, _, rfl, { hI with p12 := fun _ => rfl }⟩
            · obtain rfl := hI.p11 (hd 11 (by decide))
              obtain rfl := hI.p12 (hd 12 (by decide))
              rw [if_pos (by rfl)]
              go_simp
              exact hK.out _ _ ⟨_, _, _, _, _, _, _, _, _, _, _, _, _, _, _, _, _, _, _, _, _, _, rfl, { hI with p13 := fun _ => rfl }⟩
            · obtain rfl := hI.p13 (hd 13 (by decide))
              rw [if_pos (by rfl)]
              go_simp
              exact hK.out _ _ ⟨_, _, _, _, _, _, _, _, _, _, _, _, _, _, _, _, _, _, _, _, _, _, rfl, { hI with p14 := fun _ => rfl }⟩
            · obtain rfl := hI.p14 (hd 14 (by decide))
              rw [if_pos (by rfl)]
              have hc := HD1.out _ hI.x.bel
              go_simp
              exact hK.out _ _ ⟨_, _, _, _, _, _, _, _, _, _, _, _, _, _, _, _, _, _, _, _, _, _, rfl, { hI with p15 := fun _ => rfl }⟩
            · obtain rfl := hI.p10 (hd 10 (by decide))
              obtain rfl := hI.p15 (hd 15 (by decide))
              have oo := hI.x.e0 hL
              have ob := HDB.out _ hI.x.bel
              refine step_append_more rfl (.tmp 70) (.tmp 75) rfl W0.heap.size W0 (some ⟨W0.heap.size, 0, none⟩) 0 0 [] rfl rfl oo (hI.x.pre (ff hI.x.c19 (ff hI.x.c18 (ff hI.x.c17 hL)))) bo bb.length bc bb rfl rfl ob.1 ob.2 (by have := HLEN.out; omega) ?_
              intro ao7 c7 W2 ho7 hb7
              rw [Nat.zero_add] at ho7
              rw [Nat.zero_add]
              rw [List.nil_append] at ho7
              have hX := hI.x.s16 HNW.out hL ho7 hb7
              exact hK.out _ _ ⟨_, _, _, _, _, _, _, _, _, _, _, _, _, _, _, _, _, _, _, _, _, _, rfl, { hI with x := hX }⟩
            · obtain rfl := hI.p9 (hd 9 (by decide))
              rw [if_pos (by rfl)]
              have hX := hI.x.s17 (hd 16 (by decide)) hL
              obtain ⟨bo7, c7, e7, _⟩ := hI.x.p16 (hd 16 (by decide)) (ff hI.x.c19 (ff hI.x.c18 hL))
              subst e7
              go_simp
              exact hK.out _ _ ⟨_, _, _, _, _, _, _, _, _, _, _, _, _, _, _, _, _, _, _, _, _, _, rfl, { hI with x := hX }⟩
            · rw [if_pos (by rfl)]
              obtain ⟨bo7, c7, e7, e6⟩ := hI.x.v77 (hd 17 (by decide)) hL
              have hX := hI.x.s18 HNW.out (hd 17 (by decide)) hL e6 e7
              clear e6
              subst e7
              go_simp
              exact hK.out _ _ ⟨_, _, _, _, _, _, _, _, _, _, _, _, _, _, _, _, _, _, _, _, _, _, rfl, { hI with x := hX }⟩
            · obtain rfl := hI.p4 (hd 4 (by decide))
              have h18 := hd 18 (by decide)
              have h17 := hI.x.c18 h18
              have h16 := hI.x.c17 h17
              obtain ⟨bo7, c7, e7, ho7, _, h8⟩ := hI.x.p16 h16 hL
              obtain ⟨B8_, e8, r8⟩ := h8 h18
              have hr := HR.out.keep (hI.x.pre hL)
              refine step_append_g el_secs rfl (.tmp 64) (.tmp 78) rfl w.heap.size W0 ro tk.length rc (secCells tk rv) rfl hr.own (Nat.le_trans HNW.out hI.x.bel.size) hI.x.bel B8_ 0 1 1 [.int .i64 kk, .slice bo7 bb.length c7] e8 rfl (fun j u hu => by rw [Nat.zero_add]; exact r8.cell j u hu) (by intro u hu; simp at hu; rcases hu with rfl | rfl <;> rfl) (by have := HL64.out; unfold maxLen; omega) (by have := HL64.out; omega) ?_
              intro ao9 c9 W2 q1 q2 q3 q4
              have hX := hI.x.s19 HNW.out h18 hL e7 hr ho7 q1 q2 q3 q4
              exact hK.out _ _ ⟨_, _, _, _, _, _, _, _, _, _, _, _, _, _, _, _, _, _, _, _, _, _, rfl, { hI with x := hX, c19_4 := fun _ => (hd 4 (by decide)) }⟩
            · obtain rfl := hI.p0 (hd 0 (by decide))
              rw [if_pos (by rfl)]
              go_simp
              exact hK.out _ _ ⟨_, _, _, _, _, _, _, _, _, _, _, _, _, _, _, _, _, _, _, _, _, _, rfl, { hI with p20 := fun _ => rfl }⟩
            · obtain rfl := hI.p20 (hd 20 (by decide))
              rw [if_pos (by rfl)]
              go_simp
              exact hK.out _ _ ⟨_, _, _, _, _, _, _, _, _, _, _, _, _, _, _, _, _, _, _, _, _, _, rfl, { hI with p21 := fun _ => rfl }⟩
            · obtain rfl := hI.p21 (hd 21 (by decide))
              have hL4 := (hI.c19_4 (hd 19 (by decide)))
              rw [if_pos (by rfl)]
              have r9 := hI.x.row (hd 19 (by decide)) hL
              obtain ⟨ao9, c9, bo9, d9, w9, e9, _⟩ := hI.x.p19 (hd 19 (by decide)) hL
              have hX := hI.x.s22 (Nat.le_refl _) (hd 19 (by decide)) hL
              have hc9 := r9.cell 0 _ rfl
              have hf9 := r9.frozen 0
              subst e9
              go_simp
              exact hK.out _ _ ⟨_, _, _, _, _, _, _, _, _, _, _, _, _, _, _, _, _, _, _, _, _, _, rfl, { hI with x := hX }⟩
          · rintro L _ W hall ⟨x60, x61, x62, x63, x64, x65, x66, x67, x68, x69, x70, x71, x72, x73, x74, x75, x76, x77, x78, x79, x80, x81, rfl, hI⟩
            obtain rfl := hI.p0 (hall 0 (by decide))
            obtain rfl := hI.p1 (hall 1 (by decide))
            obtain rfl := hI.p2 (hall 2 (by decide))
            obtain rfl := hI.p3 (hall 3 (by decide))
            obtain rfl := hI.p4 (hall 4 (by decide))
            obtain rfl := hI.p5 (hall 5 (by decide))
            obtain rfl := hI.p6 (hall 6 (by decide))
            obtain rfl := hI.p7 (hall 7 (by decide))
            obtain rfl := hI.p8 (hall 8 (by decide))
            obtain rfl := hI.p9 (hall 9 (by decide))
            obtain rfl := hI.p10 (hall 10 (by decide))
            obtain rfl := hI.p11 (hall 11 (by decide))
            obtain rfl := hI.p12 (hall 12 (by decide))
            obtain rfl := hI.p13 (hall 13 (by decide))
            obtain rfl := hI.p14 (hall 14 (by decide))
            obtain rfl := hI.p15 (hall 15 (by decide))
            obtain rfl := hI.p20 (hall 20 (by decide))
            obtain rfl := hI.p21 (hall 21 (by decide))
            have hXe := hI.x
            rw [hall 16 (by decide)] at hXe
            rw [hall 17 (by decide)] at hXe
            rw [hall 18 (by decide)] at hXe
            rw [hall 19 (by decide)] at hXe
            rw [hall 22 (by decide)] at hXe
            clear hI hall
            try dsimp only
            obtain ⟨ro2, rc2, rv2, hr2⟩ := hXe.p22 rfl
            have HR2 : Hid (RgS w.heap.size w W w.heap.size (l.take (k + 1))) := ⟨⟨ro2, rc2, rv2, by rw [HP.out]; exact hr2⟩, HBW.out.trans hXe.bel⟩
            clear hr2 hXe HR HZ HD0 HD1 HDB
            go_wp2
            exact ⟨⟨k + 1, by omega, by go_num, HSN, HR2⟩, by simp [intOf]; omega⟩
      · obtain rfl : k = n := by omega
        have y1 : ¬ ((k : Nat) : Int) < (k : Int) := by omega
        have HE : Hid (newE l = none) := newE_ok HL.out (by rw [HN.out]; exact HJ.out)
        have HT : Hid (l.take k = l) := List.take_of_length_le (by rw [HN.out]; exact Nat.le_refl _)
        clear hin hao
        go_wp2
        go_ret3
        obtain ⟨⟨ro, rc, rv, hro⟩, hbw⟩ := HR.out
        rw [HT.out] at hro
        exact ⟨hbw, .inr ⟨HE.out, ro, rc, rv, rfl, hro⟩⟩
end Go.Proofs.YtjooabgjkjnhhaaGreatDoor
