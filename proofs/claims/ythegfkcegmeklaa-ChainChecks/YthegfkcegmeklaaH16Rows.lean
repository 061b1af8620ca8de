
import Derived.Test.YthegfkcegmeklaaH16Zero
/-! The reference's chain: rows. (Printed by tools/genrows16.py.) -/
namespace Go.Proofs.Ythegfkcegmeklaa
open Go.RowKit
set_option linter.unusedVariables false

theorem ff {a b : Bool} (h : a = true → b = true) (hb : b = false) : a = false := by
  cases a with
  | false => rfl
  | true => rw [h rfl] at hb; cases hb
theorem owns_blk {N e size : Nat} {w w' : World} {v : Value} {n : Nat} {xs : List Value} (h : w.ownsRow N e size v n xs) (hb : ∀ B, v.ownBlock = some B → w'.heap[B]? = w.heap[B]?) : w'.ownsRow N e size v n xs := by
  refine ⟨h.1, ?_⟩
  rcases h.2 with h0 | ⟨g, c, cur, e1, h1, h2, h3⟩
  · exact .inl h0
  · exact .inr ⟨g, c, cur, e1, h1, (hb g (by rw [e1]; rfl)).trans h2, h3⟩
theorem owns_ty {N e size : Nat} {w : World} {v : Value} {n : Nat} {xs : List Value} (h : w.ownsRow N e size v n xs) (B : Nat) (hB : v.ownBlock = some B) : ∃ cur, w.heap[B]? = some (.cells cur e (0, 0)) := by
  rcases h.2 with ⟨e0, _⟩ | ⟨g, c, cur, e1, h1, h2, h3⟩
  · rw [e0] at hB; cases hB
  · rw [e1] at hB
    injection hB with hB
    subst hB
    exact ⟨cur, h2⟩
/-- append at a step of a drawn region. -/
theorem step_append_g {T e size bytes : Nat} {z : Value} (E : ElT T e size bytes z) {ops : Array Oper} {o : Oper} {a : Act} {w : World} {K : Act → World → Prop} {Q : Exit → Act → World → Prop} {X : Prop} (hgd : o.guard = none) (s x : Operand)
    (ho : o.op = .call { callee := .builtin .append, args := #[s, x], argTypes := #[T, T] })
    (N : Nat) (a0 : World) (aoD : Option Addr) (nD capD : Nat) (vs : List Value) (hs : a.eval s = .slice aoD nD capD) (hown : w.ownsRow N e size (.slice aoD nD capD) nD vs) (hN : N ≤ w.heap.size) (hbel : Below N a0 w)
    (B off n cap : Nat) (news : List Value) (hx : a.eval x = .slice (some ⟨B, off, none⟩) n cap) (hn : news.length = n * size) (hc : ∀ j u, news[j]? = some u → w.cell? ⟨B, off + j, none⟩ = some u) (h1 : ∀ u ∈ news, u.oneCell' = true) (hm : nD + n ≤ maxLen) (hl : (nD + n) * bytes ≤ 140737488355328)
    (h : ∀ ao' cap' w', w'.ownsRow N e size (.slice ao' (nD + n) cap') (nD + n) (vs ++ news) → Below N a0 w' → w.heap.size ≤ w'.heap.size → (∀ k, k < w.heap.size → (∀ g, aoD = some ⟨g, 0, none⟩ → k ≠ g) → w'.heap[k]? = w.heap[k]?) → K (a.put o.dst (.slice ao' (nD + n) cap')) w') : if Region.wanted o (yielded ops a.tmps) = true then Oper.wp Try.prog o a w K Q else X := by
  have hw : Region.wanted o (yielded ops a.tmps) = true := by simp [Region.wanted, hgd]
  rw [if_pos hw]
  obtain ⟨ao', cap', w', hrun, h2, h3, h4, h5⟩ := run_append_gen E N a0 w o.type aoD nD capD vs hown hN hbel (some ⟨B, off, none⟩) n cap news hn (.inr ⟨B, off, rfl, hc⟩) h1 (by simp) hm hl
  unfold Oper.wp execOp
  simp only [ho, resolve, invoke, builtin, Sem.run_bind, Sem.run_pure, Result.andThen_ok, List.map_toArray, List.map_cons, List.map_nil, hs, hx, hrun]
  exact h ao' cap' w' h2 h3 h4 h5
theorem el_strs : ElT 70 9 1 16 (.string ByteArray.empty) := ⟨Try.underlying70, by kernel_rfl, rfl, by omega⟩

def zEv : EvV := ⟨[], 0⟩
/-- All that is hashed on the way to the register of the first k events. -/
def rowL (xs : List EvV) (k : Nat) : List (List By) := (List.range k).flatMap fun i => [evB (xs.getD i zEv), reg (xs.take i) ++ measure (xs.getD i zEv)]
theorem rowL_succ (xs : List EvV) (k : Nat) : rowL xs (k + 1) = rowL xs k ++ [evB (xs.getD k zEv), reg (xs.take k) ++ measure (xs.getD k zEv)] := by
  unfold rowL; rw [List.range_succ, List.flatMap_append]; simp
theorem rowL_len (xs : List EvV) (k : Nat) : (rowL xs k).length = 2 * k := by
  induction k with
  | zero => rfl
  | succ k ih => rw [rowL_succ, List.length_append, ih]; simp; omega
/-- Strings in a row of the call's own. -/
def OwnT (N : Nat) (w : World) (ao : Option Addr) (n c : Nat) (ls : List (List By)) : Prop := w.ownsRow N 9 1 (.slice ao n c) n (ls.map fun b => .string (strOf b)) ∧ N ≤ w.heap.size ∧ ls.length = n
theorem OwnT.keep {N : Nat} {w w' : World} {ao : Option Addr} {n c : Nat} {ls : List (List By)} (h : OwnT N w ao n c ls) (hb : Below w.heap.size w w') : OwnT N w' ao n c ls :=
  ⟨owns_blk h.1 fun B e => hb.block B (h.1.lt B e).2, Nat.le_trans h.2.1 hb.size, h.2.2⟩
/-- .. a block of another type is not its. -/
theorem OwnT.ne {N : Nat} {w : World} {ao : Option Addr} {n c : Nat} {ls : List (List By)} (h : OwnT N w ao n c ls) {g T : Nat} {cs : List Value} (hr : Row w g T cs) (hT : T ≠ 9) : ∀ q, ao = some ⟨q, 0, none⟩ → g ≠ q := by
  intro q hq e
  subst e
  obtain ⟨cur, hc⟩ := owns_ty h.1 g (by rw [hq]; rfl)
  have hr' : w.heap[g]? = some (.cells cs.toArray T (0, 0)) := hr
  rw [hr'] at hc
  injection hc with hc
  injection hc with _ h3
  exact hT h3

theorem own_ao {N e size : Nat} {w : World} {ao : Option Addr} {n' c n : Nat} {xs : List Value} (h : w.ownsRow N e size (.slice ao n' c) n xs) {B : Nat} (hB : (Value.slice ao n' c).ownBlock = some B) : ao = some ⟨B, 0, none⟩ := by
  rcases h.2 with ⟨e0, _⟩ | ⟨g, c1, cur, e1, _⟩
  · rw [e0] at hB; cases hB
  · injection e1 with e1 _ _
    subst e1
    injection hB with hB
    subst hB
    rfl
theorem OwnT.but {N : Nat} {w w' : World} {ao : Option Addr} {n c : Nat} {ls : List (List By)} (h : OwnT N w ao n c ls) {g T : Nat} {cs : List Value} (hr : Row w g T cs) (hT : T ≠ 9) (hs : SameBut g w w') : OwnT N w' ao n c ls :=
  ⟨owns_blk h.1 fun B e => hs.block B fun e2 => h.ne hr hT B (own_ao h.1 e) e2.symm, by rw [hs.size]; exact h.2.1, h.2.2⟩

/-- While two rows are put behind the others. -/
structure RX (N : Nat) (W1 : World) (tn : Option Addr) (k2 tc : Nat) (ls : List (List By)) (EB RB : List By) (l5 l9 l11 l12 l13 : Bool) (x25 x29 x31 x32 x3 : Value) (W : World) : Prop where
  c13 : l13 = true → l12 = true
  c12 : l12 = true → l11 = true
  c11a : l11 = true → l5 = true
  c11b : l11 = true → l9 = true
  bel : Below N W1 W
  oth : ∀ j, j < W1.heap.size → (∀ g, tn = some ⟨g, 0, none⟩ → j ≠ g) → W.heap[j]? = W1.heap[j]?
  pre : l12 = false → Below W1.heap.size W1 W
  p5 : l5 = true → l12 = false → ∃ ao c, x25 = .slice ao EB.length c ∧ Own W1.heap.size W (.slice ao EB.length c) EB
  p9 : l9 = true → l12 = false → ∃ ao c, x29 = .slice ao RB.length c ∧ Own W1.heap.size W (.slice ao RB.length c) RB
  p11 : l11 = true → l12 = false → ∃ M, x31 = .slice (some ⟨M, 0, none⟩) 2 2 ∧ Row W M 9 [.string (strOf EB), .string (strOf RB)]
  p12 : l12 = true → ∃ ao c, x32 = .slice ao (k2 + 2) c ∧ OwnT N W ao (k2 + 2) c (ls ++ [EB, RB])
  p3 : l13 = false → x3 = .slice tn k2 tc
  p13 : l13 = true → x3 = x32
section
variable {N : Nat} {W1 : World} {tn : Option Addr} {k2 tc : Nat} {ls : List (List By)} {EB RB : List By} {l5 l9 l11 l12 l13 : Bool} {x25 x29 x31 x32 x3 : Value} {W W2 : World}
theorem RX.zero (N : Nat) (W1 : World) (tn : Option Addr) (k2 tc : Nat) (ls : List (List By)) (EB RB : List By) (x25 x29 x31 x32 : Value) : RX N W1 tn k2 tc ls EB RB false false false false false x25 x29 x31 x32 (.slice tn k2 tc) W1.drew :=
  ⟨fun h => (by cases h), fun h => (by cases h), fun h => (by cases h), fun h => (by cases h), (Below.refl _ _).drew, fun _ _ _ => rfl, fun _ => (Below.refl _ _).drew, fun h => (by cases h), fun h => (by cases h), fun h => (by cases h), fun h => (by cases h), fun _ => rfl, fun h => (by cases h)⟩
theorem RX.s5 (h : RX N W1 tn k2 tc ls EB RB l5 l9 l11 l12 l13 x25 x29 x31 x32 x3 W) (h5 : l5 = false) (hN : N ≤ W1.heap.size) {ao : Option Addr} {c : Nat} (ho : Own W.heap.size W2 (.slice ao EB.length c) EB) (hb : Below W.heap.size W W2) : RX N W1 tn k2 tc ls EB RB true l9 l11 l12 l13 (.slice ao EB.length c) x29 x31 x32 x3 W2 := by
  have h11 := ff h.c11a h5
  have h12 := ff h.c12 h11
  have h13 := ff h.c13 h12
  subst h11 h12 h13
  have hz := (h.pre rfl).size
  refine ⟨fun h => (by cases h), fun h => (by cases h), fun h => (by cases h), fun h => (by cases h), h.bel.trans (hb.mono (Nat.le_trans hN hz)), fun j h1 h2 => (hb.block j (by omega)).trans (h.oth j h1 h2), fun _ => (h.pre rfl).trans (hb.mono hz), fun _ _ => ⟨ao, c, rfl, own_le ho hz⟩, fun h9 h0 => ?_, fun h => (by cases h), fun h => (by cases h), h.p3, fun h => (by cases h)⟩
  obtain ⟨a, c, e, o⟩ := h.p9 h9 h0
  exact ⟨a, c, e, o.keep hb⟩
theorem RX.s9 (h : RX N W1 tn k2 tc ls EB RB l5 l9 l11 l12 l13 x25 x29 x31 x32 x3 W) (h9 : l9 = false) (hN : N ≤ W1.heap.size) {ao : Option Addr} {c : Nat} (ho : Own W.heap.size W2 (.slice ao RB.length c) RB) (hb : Below W.heap.size W W2) : RX N W1 tn k2 tc ls EB RB l5 true l11 l12 l13 x25 (.slice ao RB.length c) x31 x32 x3 W2 := by
  have h11 := ff h.c11b h9
  have h12 := ff h.c12 h11
  have h13 := ff h.c13 h12
  subst h11 h12 h13
  have hz := (h.pre rfl).size
  refine ⟨fun h => (by cases h), fun h => (by cases h), fun h => (by cases h), fun h => (by cases h), h.bel.trans (hb.mono (Nat.le_trans hN hz)), fun j h1 h2 => (hb.block j (by omega)).trans (h.oth j h1 h2), fun _ => (h.pre rfl).trans (hb.mono hz), fun h5 h0 => ?_, fun _ _ => ⟨ao, c, rfl, own_le ho hz⟩, fun h => (by cases h), fun h => (by cases h), h.p3, fun h => (by cases h)⟩
  obtain ⟨a, c, e, o⟩ := h.p5 h5 h0
  exact ⟨a, c, e, o.keep hb⟩
theorem RX.s11 (h : RX N W1 tn k2 tc ls EB RB l5 l9 l11 l12 l13 x25 x29 x31 x32 x3 W) (h5 : l5 = true) (h9 : l9 = true) (h11 : l11 = false) (hN : N ≤ W1.heap.size) : RX N W1 tn k2 tc ls EB RB l5 l9 true l12 l13 x25 x29 (.slice (some ⟨W.heap.size, 0, none⟩) 2 2) x32 x3 (W.alloc (.cells #[.string (strOf EB), .string (strOf RB)] 9)) := by
  have h12 := ff h.c12 h11
  have h13 := ff h.c13 h12
  subst h12 h13
  have hb : Below W.heap.size W (W.alloc (.cells #[.string (strOf EB), .string (strOf RB)] 9)) := (Below.refl _ _).alloc (Nat.le_refl _) _
  have hz := (h.pre rfl).size
  refine ⟨fun h => (by cases h), fun h => (by cases h), fun _ => h5, fun _ => h9, h.bel.trans (hb.mono (Nat.le_trans hN hz)), fun j h1 h2 => (hb.block j (by omega)).trans (h.oth j h1 h2), fun _ => (h.pre rfl).trans (hb.mono hz), fun h5 h0 => ?_, fun h9 h0 => ?_, fun _ _ => ⟨_, rfl, Row.at W 9 _ _ _ rfl rfl⟩, fun h => (by cases h), h.p3, fun h => (by cases h)⟩
  · obtain ⟨a, c, e, o⟩ := h.p5 h5 h0
    exact ⟨a, c, e, o.keep hb⟩
  · obtain ⟨a, c, e, o⟩ := h.p9 h9 h0
    exact ⟨a, c, e, o.keep hb⟩
theorem RX.s12 (h : RX N W1 tn k2 tc ls EB RB l5 l9 l11 l12 l13 x25 x29 x31 x32 x3 W) (h11 : l11 = true) (h12 : l12 = false) {ao : Option Addr} {c : Nat} (ho : OwnT N W2 ao (k2 + 2) c (ls ++ [EB, RB])) (hb : Below N W1 W2) (hk : ∀ j, j < W.heap.size → (∀ g, tn = some ⟨g, 0, none⟩ → j ≠ g) → W2.heap[j]? = W.heap[j]?) : RX N W1 tn k2 tc ls EB RB l5 l9 l11 true l13 x25 x29 x31 (.slice ao (k2 + 2) c) x3 W2 := by
  have h13 := ff h.c13 h12
  subst h13
  have hz := (h.pre h12).size
  exact ⟨fun h => (by cases h), fun _ => h11, h.c11a, h.c11b, hb, fun j h1 h2 => (hk j (by omega) h2).trans (h.oth j h1 h2), fun h => (by cases h), fun _ h => (by cases h), fun _ h => (by cases h), fun _ h => (by cases h), fun _ => ⟨ao, c, rfl, ho⟩, h.p3, fun h => (by cases h)⟩
theorem RX.s13 (h : RX N W1 tn k2 tc ls EB RB l5 l9 l11 l12 l13 x25 x29 x31 x32 x3 W) (h12 : l12 = true) : RX N W1 tn k2 tc ls EB RB l5 l9 l11 l12 true x25 x29 x31 x32 x32 W :=
  ⟨fun _ => h12, h.c12, h.c11a, h.c11b, h.bel, h.oth, h.pre, h.p5, h.p9, h.p11, h.p12, fun h => (by cases h), fun _ => rfl⟩
end

structure Q7 (W1 : World) (N : Nat) (tn : Option Addr) (k2 tc : Nat) (ls : List (List By)) (EB RB : List By) (B off n cap ki : Nat) (AC : List Value) (RG MX : List By) (L : Nat → Bool) (x20 x21 x22 x23 x24 x25 x26 x27 x28 x29 x30 x31 x32 x3 : Value) (W : World) : Prop where
  x : RX N W1 tn k2 tc ls EB RB (L 5) (L 9) (L 11) (L 12) (L 13) x25 x29 x31 x32 x3 W
  p0 : L 0 = true → x20 = .slice tn k2 tc
  p1 : L 1 = true → x21 = .slice (some ⟨B, off, none⟩) n cap
  p2 : L 2 = true → x22 = .int .i64 (ki : Int)
  p3 : L 3 = true → x23 = .pointer (some ⟨B, off + ki * 33, none⟩)
  p4 : L 4 = true → x24 = .agg AC.toArray
  p6 : L 6 = true → x26 = .string (strOf EB)
  p7 : L 7 = true → x27 = .agg (RG.map B8).toArray
  p8 : L 8 = true → x28 = .agg (MX.map B8).toArray
  p10 : L 10 = true → x30 = .string (strOf RB)
  c12_0 : L 12 = true → L 0 = true
  c11_6 : L 11 = true → L 6 = true
  c11_10 : L 11 = true → L 10 = true
  c6_5 : L 6 = true → L 5 = true
  c10_9 : L 10 = true → L 9 = true
section
variable {W1 : World} {N : Nat} {tn : Option Addr} {k2 tc : Nat} {ls : List (List By)} {EB RB : List By} {B off n cap ki : Nat} {AC : List Value} {RG MX : List By} {L : Nat → Bool} {x20 x21 x22 x23 x24 x25 x26 x27 x28 x29 x30 x31 x32 x3 : Value} {W W2 : World}
theorem Q7.s0 (h : Q7 W1 N tn k2 tc ls EB RB B off n cap ki AC RG MX L x20 x21 x22 x23 x24 x25 x26 x27 x28 x29 x30 x31 x32 x3 W) : Q7 W1 N tn k2 tc ls EB RB B off n cap ki AC RG MX (upd L 0) (.slice tn k2 tc) x21 x22 x23 x24 x25 x26 x27 x28 x29 x30 x31 x32 x3 W :=
  ⟨h.x, fun _ => rfl, h.p1, h.p2, h.p3, h.p4, h.p6, h.p7, h.p8, h.p10, fun _ => rfl, h.c11_6, h.c11_10, h.c6_5, h.c10_9⟩
theorem Q7.s1 (h : Q7 W1 N tn k2 tc ls EB RB B off n cap ki AC RG MX L x20 x21 x22 x23 x24 x25 x26 x27 x28 x29 x30 x31 x32 x3 W) : Q7 W1 N tn k2 tc ls EB RB B off n cap ki AC RG MX (upd L 1) x20 (.slice (some ⟨B, off, none⟩) n cap) x22 x23 x24 x25 x26 x27 x28 x29 x30 x31 x32 x3 W :=
  ⟨h.x, h.p0, fun _ => rfl, h.p2, h.p3, h.p4, h.p6, h.p7, h.p8, h.p10, h.c12_0, h.c11_6, h.c11_10, h.c6_5, h.c10_9⟩
theorem Q7.s2 (h : Q7 W1 N tn k2 tc ls EB RB B off n cap ki AC RG MX L x20 x21 x22 x23 x24 x25 x26 x27 x28 x29 x30 x31 x32 x3 W) : Q7 W1 N tn k2 tc ls EB RB B off n cap ki AC RG MX (upd L 2) x20 x21 (.int .i64 (ki : Int)) x23 x24 x25 x26 x27 x28 x29 x30 x31 x32 x3 W :=
  ⟨h.x, h.p0, h.p1, fun _ => rfl, h.p3, h.p4, h.p6, h.p7, h.p8, h.p10, h.c12_0, h.c11_6, h.c11_10, h.c6_5, h.c10_9⟩
theorem Q7.s3 (h : Q7 W1 N tn k2 tc ls EB RB B off n cap ki AC RG MX L x20 x21 x22 x23 x24 x25 x26 x27 x28 x29 x30 x31 x32 x3 W) : Q7 W1 N tn k2 tc ls EB RB B off n cap ki AC RG MX (upd L 3) x20 x21 x22 (.pointer (some ⟨B, off + ki * 33, none⟩)) x24 x25 x26 x27 x28 x29 x30 x31 x32 x3 W :=
  ⟨h.x, h.p0, h.p1, h.p2, fun _ => rfl, h.p4, h.p6, h.p7, h.p8, h.p10, h.c12_0, h.c11_6, h.c11_10, h.c6_5, h.c10_9⟩
theorem Q7.s4 (h : Q7 W1 N tn k2 tc ls EB RB B off n cap ki AC RG MX L x20 x21 x22 x23 x24 x25 x26 x27 x28 x29 x30 x31 x32 x3 W) : Q7 W1 N tn k2 tc ls EB RB B off n cap ki AC RG MX (upd L 4) x20 x21 x22 x23 (.agg AC.toArray) x25 x26 x27 x28 x29 x30 x31 x32 x3 W :=
  ⟨h.x, h.p0, h.p1, h.p2, h.p3, fun _ => rfl, h.p6, h.p7, h.p8, h.p10, h.c12_0, h.c11_6, h.c11_10, h.c6_5, h.c10_9⟩
theorem Q7.s5 (h : Q7 W1 N tn k2 tc ls EB RB B off n cap ki AC RG MX L x20 x21 x22 x23 x24 x25 x26 x27 x28 x29 x30 x31 x32 x3 W) {v : Value} (hX : RX N W1 tn k2 tc ls EB RB ((upd L 5) 5) ((upd L 5) 9) ((upd L 5) 11) ((upd L 5) 12) ((upd L 5) 13) v x29 x31 x32 x3 W2) : Q7 W1 N tn k2 tc ls EB RB B off n cap ki AC RG MX (upd L 5) x20 x21 x22 x23 x24 v x26 x27 x28 x29 x30 x31 x32 x3 W2 :=
  ⟨hX, h.p0, h.p1, h.p2, h.p3, h.p4, h.p6, h.p7, h.p8, h.p10, h.c12_0, h.c11_6, h.c11_10, fun _ => rfl, h.c10_9⟩
theorem Q7.s6 (h : Q7 W1 N tn k2 tc ls EB RB B off n cap ki AC RG MX L x20 x21 x22 x23 x24 x25 x26 x27 x28 x29 x30 x31 x32 x3 W) (hc5 : L 5 = true) : Q7 W1 N tn k2 tc ls EB RB B off n cap ki AC RG MX (upd L 6) x20 x21 x22 x23 x24 x25 (.string (strOf EB)) x27 x28 x29 x30 x31 x32 x3 W :=
  ⟨h.x, h.p0, h.p1, h.p2, h.p3, h.p4, fun _ => rfl, h.p7, h.p8, h.p10, h.c12_0, fun _ => rfl, h.c11_10, fun _ => hc5, h.c10_9⟩
theorem Q7.s7 (h : Q7 W1 N tn k2 tc ls EB RB B off n cap ki AC RG MX L x20 x21 x22 x23 x24 x25 x26 x27 x28 x29 x30 x31 x32 x3 W) : Q7 W1 N tn k2 tc ls EB RB B off n cap ki AC RG MX (upd L 7) x20 x21 x22 x23 x24 x25 x26 (.agg (RG.map B8).toArray) x28 x29 x30 x31 x32 x3 W :=
  ⟨h.x, h.p0, h.p1, h.p2, h.p3, h.p4, h.p6, fun _ => rfl, h.p8, h.p10, h.c12_0, h.c11_6, h.c11_10, h.c6_5, h.c10_9⟩
theorem Q7.s8 (h : Q7 W1 N tn k2 tc ls EB RB B off n cap ki AC RG MX L x20 x21 x22 x23 x24 x25 x26 x27 x28 x29 x30 x31 x32 x3 W) : Q7 W1 N tn k2 tc ls EB RB B off n cap ki AC RG MX (upd L 8) x20 x21 x22 x23 x24 x25 x26 x27 (.agg (MX.map B8).toArray) x29 x30 x31 x32 x3 W :=
  ⟨h.x, h.p0, h.p1, h.p2, h.p3, h.p4, h.p6, h.p7, fun _ => rfl, h.p10, h.c12_0, h.c11_6, h.c11_10, h.c6_5, h.c10_9⟩
theorem Q7.s9 (h : Q7 W1 N tn k2 tc ls EB RB B off n cap ki AC RG MX L x20 x21 x22 x23 x24 x25 x26 x27 x28 x29 x30 x31 x32 x3 W) {v : Value} (hX : RX N W1 tn k2 tc ls EB RB ((upd L 9) 5) ((upd L 9) 9) ((upd L 9) 11) ((upd L 9) 12) ((upd L 9) 13) x25 v x31 x32 x3 W2) : Q7 W1 N tn k2 tc ls EB RB B off n cap ki AC RG MX (upd L 9) x20 x21 x22 x23 x24 x25 x26 x27 x28 v x30 x31 x32 x3 W2 :=
  ⟨hX, h.p0, h.p1, h.p2, h.p3, h.p4, h.p6, h.p7, h.p8, h.p10, h.c12_0, h.c11_6, h.c11_10, h.c6_5, fun _ => rfl⟩
theorem Q7.s10 (h : Q7 W1 N tn k2 tc ls EB RB B off n cap ki AC RG MX L x20 x21 x22 x23 x24 x25 x26 x27 x28 x29 x30 x31 x32 x3 W) (hc9 : L 9 = true) : Q7 W1 N tn k2 tc ls EB RB B off n cap ki AC RG MX (upd L 10) x20 x21 x22 x23 x24 x25 x26 x27 x28 x29 (.string (strOf RB)) x31 x32 x3 W :=
  ⟨h.x, h.p0, h.p1, h.p2, h.p3, h.p4, h.p6, h.p7, h.p8, fun _ => rfl, h.c12_0, h.c11_6, fun _ => rfl, h.c6_5, fun _ => hc9⟩
theorem Q7.s11 (h : Q7 W1 N tn k2 tc ls EB RB B off n cap ki AC RG MX L x20 x21 x22 x23 x24 x25 x26 x27 x28 x29 x30 x31 x32 x3 W) {v : Value} (hX : RX N W1 tn k2 tc ls EB RB ((upd L 11) 5) ((upd L 11) 9) ((upd L 11) 11) ((upd L 11) 12) ((upd L 11) 13) x25 x29 v x32 x3 W2) (hc6 : L 6 = true) (hc10 : L 10 = true) : Q7 W1 N tn k2 tc ls EB RB B off n cap ki AC RG MX (upd L 11) x20 x21 x22 x23 x24 x25 x26 x27 x28 x29 x30 v x32 x3 W2 :=
  ⟨hX, h.p0, h.p1, h.p2, h.p3, h.p4, h.p6, h.p7, h.p8, h.p10, h.c12_0, fun _ => hc6, fun _ => hc10, h.c6_5, h.c10_9⟩
theorem Q7.s12 (h : Q7 W1 N tn k2 tc ls EB RB B off n cap ki AC RG MX L x20 x21 x22 x23 x24 x25 x26 x27 x28 x29 x30 x31 x32 x3 W) {v : Value} (hX : RX N W1 tn k2 tc ls EB RB ((upd L 12) 5) ((upd L 12) 9) ((upd L 12) 11) ((upd L 12) 12) ((upd L 12) 13) x25 x29 x31 v x3 W2) (hc0 : L 0 = true) : Q7 W1 N tn k2 tc ls EB RB B off n cap ki AC RG MX (upd L 12) x20 x21 x22 x23 x24 x25 x26 x27 x28 x29 x30 x31 v x3 W2 :=
  ⟨hX, h.p0, h.p1, h.p2, h.p3, h.p4, h.p6, h.p7, h.p8, h.p10, fun _ => hc0, h.c11_6, h.c11_10, h.c6_5, h.c10_9⟩
theorem Q7.s13 (h : Q7 W1 N tn k2 tc ls EB RB B off n cap ki AC RG MX L x20 x21 x22 x23 x24 x25 x26 x27 x28 x29 x30 x31 x32 x3 W) {v : Value} (hX : RX N W1 tn k2 tc ls EB RB ((upd L 13) 5) ((upd L 13) 9) ((upd L 13) 11) ((upd L 13) 12) ((upd L 13) 13) x25 x29 x31 x32 v W2) : Q7 W1 N tn k2 tc ls EB RB B off n cap ki AC RG MX (upd L 13) x20 x21 x22 x23 x24 x25 x26 x27 x28 x29 x30 x31 x32 v W2 :=
  ⟨hX, h.p0, h.p1, h.p2, h.p3, h.p4, h.p6, h.p7, h.p8, h.p10, h.c12_0, h.c11_6, h.c11_10, h.c6_5, h.c10_9⟩
end
@[reducible] def IQ7 (W1 : World) (N : Nat) (tn : Option Addr) (k2 tc : Nat) (ls : List (List By)) (EB RB : List By) (B off n cap ki : Nat) (AC : List Value) (RG MX : List By) (y0 y1 y2 y4 y5 y6 y7 y8 y9 y10 y11 y12 y13 y14 y15 y16 y17 y18 y19 y33 y34 y35 y36 : Value) : (Nat → Bool) → Act → World → Prop := fun L a W => ∃ x20 x21 x22 x23 x24 x25 x26 x27 x28 x29 x30 x31 x32 x3, a = ⟨#[y0, y1, y2, x3, y4, y5, y6, y7, y8, y9, y10, y11, y12, y13, y14, y15, y16, y17, y18, y19, x20, x21, x22, x23, x24, x25, x26, x27, x28, x29, x30, x31, x32, y33, y34, y35, y36], []⟩ ∧ Q7 W1 N tn k2 tc ls EB RB B off n cap ki AC RG MX L x20 x21 x22 x23 x24 x25 x26 x27 x28 x29 x30 x31 x32 x3 W
theorem Q7.step {W1 : World} {N : Nat} {tn : Option Addr} {k2 tc : Nat} {ls : List (List By)} {EB RB : List By} {B off n cap ki : Nat} {AC : List Value} {RG MX : List By} {y0 y1 y2 y4 y5 y6 y7 y8 y9 y10 y11 y12 y13 y14 y15 y16 y17 y18 y19 y33 y34 y35 y36 : Value} {P : Program} {ops : Array Oper} {Q : Exit → Act → World → Prop} {i : Nat} {o : Oper} (hq : ∀ x20 x21 x22 x23 x24 x25 x26 x27 x28 x29 x30 x31 x32 x3 (L : Nat → Bool) (W : World), Q7 W1 N tn k2 tc ls EB RB B off n cap ki AC RG MX L x20 x21 x22 x23 x24 x25 x26 x27 x28 x29 x30 x31 x32 x3 W → L i = false → (∀ j ∈ onesOf o, L j = true) → ∀ K : Act → World → Prop, Shut (∀ a' w', IQ7 W1 N tn k2 tc ls EB RB B off n cap ki AC RG MX y0 y1 y2 y4 y5 y6 y7 y8 y9 y10 y11 y12 y13 y14 y15 y16 y17 y18 y19 y33 y34 y35 y36 (upd L i) a' w' → K a' w') → if Region.wanted o (yielded ops (⟨#[y0, y1, y2, x3, y4, y5, y6, y7, y8, y9, y10, y11, y12, y13, y14, y15, y16, y17, y18, y19, x20, x21, x22, x23, x24, x25, x26, x27, x28, x29, x30, x31, x32, y33, y34, y35, y36], []⟩ : Act).tmps) = true then Oper.wp P o ⟨#[y0, y1, y2, x3, y4, y5, y6, y7, y8, y9, y10, y11, y12, y13, y14, y15, y16, y17, y18, y19, x20, x21, x22, x23, x24, x25, x26, x27, x28, x29, x30, x31, x32, y33, y34, y35, y36], []⟩ W K Q else K ((⟨#[y0, y1, y2, x3, y4, y5, y6, y7, y8, y9, y10, y11, y12, y13, y14, y15, y16, y17, y18, y19, x20, x21, x22, x23, x24, x25, x26, x27, x28, x29, x30, x31, x32, y33, y34, y35, y36], []⟩ : Act).put o.dst undef) W) : StepI P ops (IQ7 W1 N tn k2 tc ls EB RB B off n cap ki AC RG MX y0 y1 y2 y4 y5 y6 y7 y8 y9 y10 y11 y12 y13 y14 y15 y16 y17 y18 y19 y33 y34 y35 y36) Q i o := by
  rintro L a W ⟨x20, x21, x22, x23, x24, x25, x26, x27, x28, x29, x30, x31, x32, x3, rfl, h⟩
  exact hq _ _ _ _ _ _ _ _ _ _ _ _ _ _ _ _ h
theorem Q7.ends {W1 : World} {N : Nat} {tn : Option Addr} {k2 tc : Nat} {ls : List (List By)} {EB RB : List By} {B off n cap ki : Nat} {AC : List Value} {RG MX : List By} {y0 y1 y2 y4 y5 y6 y7 y8 y9 y10 y11 y12 y13 y14 y15 y16 y17 y18 y19 y33 y34 y35 y36 : Value} {mm_ : Nat} {Q : Exit → Act → World → Prop} (hq : ∀ x20 x21 x22 x23 x24 x25 x26 x27 x28 x29 x30 x31 x32 x3 (L : Nat → Bool) (W : World), (∀ j, j < mm_ → L j = true) → Q7 W1 N tn k2 tc ls EB RB B off n cap ki AC RG MX L x20 x21 x22 x23 x24 x25 x26 x27 x28 x29 x30 x31 x32 x3 W → Q .normal ⟨#[y0, y1, y2, x3, y4, y5, y6, y7, y8, y9, y10, y11, y12, y13, y14, y15, y16, y17, y18, y19, x20, x21, x22, x23, x24, x25, x26, x27, x28, x29, x30, x31, x32, y33, y34, y35, y36], []⟩ W) : ∀ L a' w', (∀ j, j < mm_ → L j = true) → IQ7 W1 N tn k2 tc ls EB RB B off n cap ki AC RG MX y0 y1 y2 y4 y5 y6 y7 y8 y9 y10 y11 y12 y13 y14 y15 y16 y17 y18 y19 y33 y34 y35 y36 L a' w' → Q .normal a' w' := by
  rintro L a W hall ⟨x20, x21, x22, x23, x24, x25, x26, x27, x28, x29, x30, x31, x32, x3, rfl, h⟩
  exact hq _ _ _ _ _ _ _ _ _ _ _ _ _ _ _ _ hall h
set_option maxHeartbeats 2000000 in
set_option maxRecDepth 100000 in
theorem rrows_any (w : World) (ao : Option Addr) (n cap B off : Nat) (xs : List EvV) (hn : xs.length = n) (hn40 : n * 40 ≤ 140737488351232) (hao : 0 < n → ao = some ⟨B, off, none⟩) (hin : EvIn w B off xs) :
    Calls Try.prog 39 #[.slice ao n cap] w fun e w' => ∃ ao' c', e = .returned (.slice ao' (2 * n) c') ∧ OwnT w.heap.size w' ao' (2 * n) c' (rowL xs n) ∧ Below w.heap.size w w' := by
  obtain ⟨W2, hW2⟩ : ∃ W2, W2 = (w.alloc (.cells #[] 9)).alloc (.cells z32.toArray 32) := ⟨_, rfl⟩
  have r2 : Row W2 (w.heap.size + 1) 32 z32 := by rw [hW2]; exact Row.at _ _ _ _ _ (by simp) rfl
  have b2 : Below w.heap.size w W2 := by rw [hW2]; exact ((Below.refl _ _).alloc (Nat.le_refl _) _).alloc (by simp) _
  have t2 : OwnT w.heap.size W2 (some ⟨w.heap.size, 0, none⟩) (2 * 0) 0 (rowL xs 0) := by
    rw [hW2]
    refine OwnT.keep (w := w.alloc (.cells #[] 9)) ⟨⟨by simp [rowL], .inr ⟨w.heap.size, 0, #[], rfl, Nat.le_refl _, heap_alloc_new w _, Nat.le_refl _, by unfold maxLen; omega, by simp, by simp [rowL]⟩⟩, by simp, rfl⟩ ((Below.refl _ _).alloc (Nat.le_refl _) _)
  have HI : Hid (∀ W, Below w.heap.size w W → EvIn W B off xs) := fun W h => hin.keep h
  have HX : Hid (xs.length = n) := hn
  have HAO : Hid (0 < n → ao = some ⟨B, off, none⟩) := hao
  clear hin hn hao
  subst hW2
  go_enter Try.func39, Try.ntmps39
  go_wp2_with (refine wpList_store_Row rfl 32 _ _ rfl (w.heap.size + 1) 32 0 z32 z32 r2 (by simp) rfl rfl (by kernel_rfl) (B8_one _) ?_; intro w3 hr3 hs3)
  have r3 := row_whole hr3 (by simp)
  have b3 := hs3.below b2 (by omega)
  have t3 : OwnT w.heap.size w3 (some ⟨w.heap.size, 0, none⟩) (2 * 0) 0 (rowL xs 0) := ⟨owns_blk t2.1 fun B e => hs3.block B (fun e2 => by have h9 := own_ao t2.1 e; injection h9 with h9; injection h9 with h9; omega), b3.size, rfl⟩
  have HS : Hid (OwnT w.heap.size w3 (some ⟨w.heap.size, 0, none⟩) (2 * 0) 0 (rowL xs 0) ∧ Row w3 (w.heap.size + 1) 32 ((reg (xs.take 0)).map B8) ∧ Below w.heap.size w w3) := ⟨t3, r3, b3⟩
  clear r2 r3 b3 b2 t2 t3 hr3 hs3
  go_loopw [3, 5] (fun ov iv wr => ∃ (k : Nat) (tn : Option Addr) (tc : Nat), k ≤ n ∧ ov = .slice tn (2 * k) tc ∧ iv = .int .i64 k ∧ Hid (OwnT w.heap.size wr tn (2 * k) tc (rowL xs k) ∧ Row wr (w.heap.size + 1) 32 ((reg (xs.take k)).map B8) ∧ Below w.heap.size w wr)) (fun _ iv _ => n - (intOf iv).toNat)
  case atStart => exact ⟨0, _, _, by omega, rfl, rfl, HS⟩
  case round =>
    clear HS
    obtain ⟨k, tn, tc, hk, rfl, rfl, HK⟩ := hrel
    by_cases hlt : k < n
    · obtain rfl := HAO.out (by omega)
      have y0 : (0 : Int) ≤ (k : Int) := by omega
      have y1 : (k : Int) < (n : Int) := by omega
      obtain ⟨x, hx⟩ : ∃ x, xs[k]? = some x := ⟨_, List.getElem?_eq_getElem (by rw [HX.out]; exact hlt)⟩
      have hgx : xs.getD k zEv = x := by rw [List.getD_eq_getElem?_getD, hx]; rfl
      have hrg := (HI.out _ HK.out.2.2).cells k x hx
      have hok := (HI.out _ HK.out.2.2).ok k x hx
      have HCE : Hid (∀ W, Below w.heap.size w W → W.rangeAt B (off + k * 33) (evC x)) := fun W h => (HI.out W h).cells k x hx
      have hal := evC_len hok
      have HP : Hid (reg (xs.take (k + 1)) = extend (reg (xs.take k)) (measure x)) := by
        show _ = _
        rw [take_one hx, reg_push]
      have HRL : Hid (rowL xs (k + 1) = rowL xs k ++ [evB x, reg (xs.take k) ++ measure x]) := by
        show _ = _
        rw [rowL_succ, hgx]
      have hrl := reg_len (xs.take k)
      have hml : (measure x).length = 32 := shaLen _
      have hel : (extend (reg (xs.take k)) (measure x)).length = 32 := shaLen _
      have ME := rmeasure_any x hok wr
      have EX := rextend_any (reg (xs.take k)) (measure x) hrl hml
      have EVC : Hid (∀ W, Calls Try.prog 36 #[.agg (evC x).toArray] W fun e w' => ∃ ao' c', e = .returned (.slice ao' (evB x).length c') ∧ Own W.heap.size w' (.slice ao' (evB x).length c') (evB x) ∧ Below W.heap.size W w') := fun W => by rw [evB_len hok]; exact revent_any x hok W
      have BOC : Hid (∀ W, Calls Try.prog 33 #[.agg ((reg (xs.take k)).map B8).toArray, .agg ((measure x).map B8).toArray] W fun e w' => ∃ ao' c', e = .returned (.slice ao' (reg (xs.take k) ++ measure x).length c') ∧ Own W.heap.size w' (.slice ao' (reg (xs.take k) ++ measure x).length c') (reg (xs.take k) ++ measure x) ∧ Below W.heap.size W w') := fun W => by rw [List.length_append, hrl, hml]; exact rboth_any (reg (xs.take k)) (measure x) hrl hml W
      obtain ⟨tt, rb, bb⟩ := HK.out
      clear HK hx hok hgx
      generalize evC x = AC at *
      generalize rowL xs k = RL at *
      generalize evB x = EB at *
      generalize reg (xs.take k) ++ measure x = RB at *
      generalize reg (xs.take k) = RG at *
      generalize measure x = MX at *
      generalize extend RG MX = EXT at *
      go_wp2_with (refine wpList_load_mid rfl 35 (.tmp 17) rfl B (off + k * 33) rfl AC _ hrg Try.underlying35 rfl (by rw [hal]; kernel_rfl) ?_)
      refine ME.mono ?_
      clear ME hrg
      rintro e w4 ⟨rfl, b4⟩
      dsimp only
      replace rb := rb.below b4 rb.lt
      replace tt := tt.keep b4
      replace bb := bb.trans (b4.mono bb.size)
      clear b4
      generalize hG : w4.heap.size = G at *
      have hg1 : w.heap.size + 1 < G := by rw [← hG]; exact rb.lt
      have lm : (MX.map B8).length = 32 := by rw [List.length_map, hml]
      have lr : (RG.map B8).length = 32 := by rw [List.length_map, hrl]
      go_wp2_with (refine wpList_store_Row rfl 32 _ _ rfl G 32 0 z32 (MX.map B8) (Row.at w4 _ _ _ _ hG.symm rfl) (by simp [hml]) rfl rfl (by rw [lm]; kernel_rfl) (B8_one _) ?_; intro w5 hr5 hs5; have r5 : Hid (Row w5 G 32 (MX.map B8)) := row_whole hr5 (by simp [hml]); have bb45 : Below w4.heap.size w4 w5 := hs5.below ((Below.refl _ _).alloc (Nat.le_refl _) _) (by omega); have rb5 : Hid (Row w5 (w.heap.size + 1) 32 (RG.map B8)) := rb.below bb45 (by omega); have tt5 : Hid (OwnT w.heap.size w5 tn (2 * k) tc RL) := tt.keep bb45; have bb5 : Hid (Below w.heap.size w w5) := bb.trans (bb45.mono bb.size); clear hr5 hs5 bb45 rb tt bb)
      have HNW : Hid (w.heap.size ≤ w5.heap.size) := bb5.out.size
      have HRR : Hid (∀ W : World, (∀ j, j < w5.heap.size → (∀ g, tn = some ⟨g, 0, none⟩ → j ≠ g) → W.heap[j]? = w5.heap[j]?) → Row W (w.heap.size + 1) 32 (RG.map B8)) := fun W h => (h _ rb5.out.lt (tt5.out.ne rb5.out (by decide))).trans rb5.out
      have HRX : Hid (∀ W : World, (∀ j, j < w5.heap.size → (∀ g, tn = some ⟨g, 0, none⟩ → j ≠ g) → W.heap[j]? = w5.heap[j]?) → Row W G 32 (MX.map B8)) := fun W h => (h _ r5.out.lt (tt5.out.ne r5.out (by decide))).trans r5.out
      have HCW : Hid (∀ W, Below w.heap.size w5 W → W.rangeAt B (off + k * 33) AC) := fun W h => HCE.out W (bb5.out.trans h)
      clear hG
      refine wp_region_inv (IQ7 w5 w.heap.size tn (2 * k) tc RL EB RB B off n cap k AC RG MX _ _ _ _ _ _ _ _ _ _ _ _ _ _ _ _ _ _ _ _ _ _ _) (by kernel_rfl) (by kernel_rfl) ⟨_, _, _, _, _, _, _, _, _, _, _, _, _, _, rfl, ⟨RX.zero _ _ _ _ _ _ _ _ _ _ _ _, fun k => (by cases k), fun k => (by cases k), fun k => (by cases k), fun k => (by cases k), fun k => (by cases k), fun k => (by cases k), fun k => (by cases k), fun k => (by cases k), fun k => (by cases k), fun k => (by cases k), fun k => (by cases k), fun k => (by cases k), fun k => (by cases k), fun k => (by cases k)⟩⟩ ?_ ?_
      · refine .cons ?_ (.cons ?_ (.cons ?_ (.cons ?_ (.cons ?_ (.cons ?_ (.cons ?_ (.cons ?_ (.cons ?_ (.cons ?_ (.cons ?_ (.cons ?_ (.cons ?_ (.cons ?_ .nil)))))))))))))
        all_goals (refine Q7.step ?_; intro x20 x21 x22 x23 x24 x25 x26 x27 x28 x29 x30 x31 x32 x3 L W hI hL hd K hK)
        · rw [if_pos (by rfl)]
          have h12 : L 12 = false := ff hI.c12_0 hL
          have e3 := hI.x.p3 (ff hI.x.c13 h12)
          subst e3
          go_simp
          exact hK.out _ _ ⟨_, _, _, _, _, _, _, _, _, _, _, _, _, _, rfl, hI.s0⟩
        · rw [if_pos (by rfl)]
          go_simp
          exact hK.out _ _ ⟨_, _, _, _, _, _, _, _, _, _, _, _, _, _, rfl, hI.s1⟩
        · rw [if_pos (by rfl)]
          go_simp
          exact hK.out _ _ ⟨_, _, _, _, _, _, _, _, _, _, _, _, _, _, rfl, hI.s2⟩
        · have hx1 := hI.p1 (hd 1 (by decide))
          subst hx1
          have hx2 := hI.p2 (hd 2 (by decide))
          subst hx2
          rw [if_pos (by rfl)]
          go_simp
          exact hK.out _ _ ⟨_, _, _, _, _, _, _, _, _, _, _, _, _, _, rfl, hI.s3⟩
        · have hx3 := hI.p3 (hd 3 (by decide))
          subst hx3
          refine step_load_rng rfl 35 _ rfl B (off + k * 33) AC (HCW.out _ hI.x.bel) rfl _ Try.underlying35 rfl (by rw [hal]; kernel_rfl) ?_
          exact hK.out _ _ ⟨_, _, _, _, _, _, _, _, _, _, _, _, _, _, rfl, hI.s4⟩
        · have hx4 := hI.p4 (hd 4 (by decide))
          subst hx4
          rw [if_pos (by rfl)]
          go_simp
          refine (EVC.out _).mono ?_
          rintro e W2 ⟨ao5, c5, rfl, ho5, hb5⟩
          go_simp
          have hX := hI.x.s5 hL HNW.out ho5 hb5
          exact hK.out _ _ ⟨_, _, _, _, _, _, _, _, _, _, _, _, _, _, rfl, hI.s5 hX⟩
        · rw [if_pos (by rfl)]
          have h12 : L 12 = false := ff hI.x.c12 (ff hI.c11_6 hL)
          obtain ⟨ao5, c5, e5, ho5⟩ := hI.x.p5 (hd 5 (by decide)) h12
          have hcv := conv_bytes W ao5 _ c5 EB rfl (own_IsB ho5)
          subst e5
          go_simp
          exact hK.out _ _ ⟨_, _, _, _, _, _, _, _, _, _, _, _, _, _, rfl, hI.s6 (hd 5 (by decide))⟩
        · refine step_load_Row rfl 32 _ rfl (w.heap.size + 1) 32 (RG.map B8) (HRR.out _ hI.x.oth) rfl _ Try.underlying32 rfl (by rw [lr]; kernel_rfl) ?_
          exact hK.out _ _ ⟨_, _, _, _, _, _, _, _, _, _, _, _, _, _, rfl, hI.s7⟩
        · refine step_load_Row rfl 32 _ rfl G 32 (MX.map B8) (HRX.out _ hI.x.oth) rfl _ Try.underlying32 rfl (by rw [lm]; kernel_rfl) ?_
          exact hK.out _ _ ⟨_, _, _, _, _, _, _, _, _, _, _, _, _, _, rfl, hI.s8⟩
        · have hx7 := hI.p7 (hd 7 (by decide))
          subst hx7
          have hx8 := hI.p8 (hd 8 (by decide))
          subst hx8
          rw [if_pos (by rfl)]
          go_simp
          refine (BOC.out _).mono ?_
          rintro e W2 ⟨ao9, c9, rfl, ho9, hb9⟩
          go_simp
          have hX := hI.x.s9 hL HNW.out ho9 hb9
          exact hK.out _ _ ⟨_, _, _, _, _, _, _, _, _, _, _, _, _, _, rfl, hI.s9 hX⟩
        · rw [if_pos (by rfl)]
          have h12 : L 12 = false := ff hI.x.c12 (ff hI.c11_10 hL)
          obtain ⟨ao5, c5, e5, ho5⟩ := hI.x.p9 (hd 9 (by decide)) h12
          have hcv := conv_bytes W ao5 _ c5 RB rfl (own_IsB ho5)
          subst e5
          go_simp
          exact hK.out _ _ ⟨_, _, _, _, _, _, _, _, _, _, _, _, _, _, rfl, hI.s10 (hd 9 (by decide))⟩
        · have hx6 := hI.p6 (hd 6 (by decide))
          subst hx6
          have hx10 := hI.p10 (hd 10 (by decide))
          subst hx10
          rw [if_pos (by rfl)]
          have h5 : L 5 = true := hI.c6_5 (hd 6 (by decide))
          have h9 : L 9 = true := hI.c10_9 (hd 10 (by decide))
          have hX := hI.x.s11 h5 h9 hL HNW.out
          go_simp
          exact hK.out _ _ ⟨_, _, _, _, _, _, _, _, _, _, _, _, _, _, rfl, hI.s11 hX (hd 6 (by decide)) (hd 10 (by decide))⟩
        · have hx0 := hI.p0 (hd 0 (by decide))
          subst hx0
          have hL6 := (hI.c11_6 (hd 11 (by decide)))
          have hL10 := (hI.c11_10 (hd 11 (by decide)))
          have hL5 := (hI.c6_5 (hI.c11_6 (hd 11 (by decide))))
          have hL9 := (hI.c10_9 (hI.c11_10 (hd 11 (by decide))))
          obtain ⟨M, eM, rM⟩ := hI.x.p11 (hd 11 (by decide)) hL
          have tt := tt5.out.keep (hI.x.pre hL)
          refine step_append_g el_strs rfl (.tmp 20) (.tmp 31) rfl w.heap.size w5 tn (2 * k) tc _ rfl tt.1 tt.2.1 hI.x.bel M 0 2 2 [.string (strOf EB), .string (strOf RB)] eM rfl (fun j u hu => by rw [Nat.zero_add]; exact rM.cell j u hu) (by intro u hu; simp at hu; rcases hu with rfl | rfl <;> rfl) (by unfold maxLen; omega) (by omega) ?_
          intro ao8 c8 W2 q1 q2 q3 q4
          have hX := hI.x.s12 (hd 11 (by decide)) hL (ao := ao8) (c := c8) ⟨by rw [List.map_append]; exact q1, Nat.le_trans tt.2.1 q3, by rw [List.length_append, tt.2.2]; rfl⟩ q2 q4
          exact hK.out _ _ ⟨_, _, _, _, _, _, _, _, _, _, _, _, _, _, rfl, hI.s12 hX (hd 0 (by decide))⟩
        · have hL0 := (hI.c12_0 (hd 12 (by decide)))
          rw [if_pos (by rfl)]
          have hX := hI.x.s13 (hd 12 (by decide))
          go_simp
          exact hK.out _ _ ⟨_, _, _, _, _, _, _, _, _, _, _, _, _, _, rfl, hI.s13 hX⟩
      · refine Q7.ends ?_; intro x20 x21 x22 x23 x24 x25 x26 x27 x28 x29 x30 x31 x32 x3 L W hall hI
        have hx0 := hI.p0 (hall 0 (by decide))
        subst hx0
        have hx1 := hI.p1 (hall 1 (by decide))
        subst hx1
        have hx2 := hI.p2 (hall 2 (by decide))
        subst hx2
        have hx3 := hI.p3 (hall 3 (by decide))
        subst hx3
        have hx4 := hI.p4 (hall 4 (by decide))
        subst hx4
        have hx6 := hI.p6 (hall 6 (by decide))
        subst hx6
        have hx7 := hI.p7 (hall 7 (by decide))
        subst hx7
        have hx8 := hI.p8 (hall 8 (by decide))
        subst hx8
        have hx10 := hI.p10 (hall 10 (by decide))
        subst hx10
        have hXe := hI.x
        rw [hall 5 (by decide)] at hXe
        rw [hall 9 (by decide)] at hXe
        rw [hall 11 (by decide)] at hXe
        rw [hall 12 (by decide)] at hXe
        rw [hall 13 (by decide)] at hXe
        clear hI hall
        try dsimp only
        obtain ⟨ao8, c8, e8, ho8⟩ := hXe.p12 rfl
        have e3 := hXe.p13 rfl
        subst e3
        subst e8
        have b8 : Hid (Below w.heap.size w W) := bb5.out.trans hXe.bel
        have rr8 := HRR.out W hXe.oth
        have rx8 := HRX.out W hXe.oth
        have T8 : Hid (OwnT w.heap.size W ao8 (2 * k + 2) c8 (rowL xs (k + 1))) := by
          rw [HRL.out]; exact ho8
        clear hXe ho8 HRR HRX HCW HRL tt5 rb5 r5 bb5
        go_wp2_with (first | (refine wpList_load_Row rfl 32 (.tmp 4) rfl (w.heap.size + 1) 32 (RG.map B8) rr8 rfl _ Try.underlying32 rfl (by rw [lr]; kernel_rfl) ?_) | (refine wpList_load_Row rfl 32 (.tmp 6) rfl G 32 (MX.map B8) rx8 rfl _ Try.underlying32 rfl (by rw [lm]; kernel_rfl) ?_))
        refine (EX W).mono ?_
        clear EX
        rintro e w9 ⟨rfl, b9⟩
        dsimp only
        have rr9 := rr8.below b9 rr8.lt
        have T9 : Hid (OwnT w.heap.size w9 ao8 (2 * k + 2) c8 (rowL xs (k + 1))) := T8.out.keep b9
        have B9 : Hid (Below w.heap.size w w9) := b8.out.trans (b9.mono b8.out.size)
        clear rr8 rx8 b9 T8 b8
        go_wp2_with (refine wpList_store_Row rfl 32 _ _ rfl (w.heap.size + 1) 32 0 (RG.map B8) (EXT.map B8) rr9 (by simp [hel, hrl]) rfl rfl (by rw [List.length_map, hel]; kernel_rfl) (B8_one _) ?_; intro w7 hr7 hs7)
        have rb7 := row_whole hr7 (by simp [hel, hrl])
        have T7 := T9.out.but rr9 (by decide) hs7
        exact ⟨⟨k + 1, ao8, c8, by omega, rfl, by go_num, T7, by rw [HP.out]; exact rb7, hs7.below B9.out (by omega)⟩, by simp [intOf]; omega⟩
    · obtain rfl : k = n := by omega
      have y1 : ¬ ((k : Nat) : Int) < (k : Int) := by omega
      have HT : Hid (OwnT w.heap.size wr tn (2 * k) tc (rowL xs k) ∧ Below w.heap.size w wr) := ⟨HK.out.1, HK.out.2.2⟩
      clear HK
      go_wp2
      go_ret
      exact ⟨tn, tc, rfl, HT.out.1, HT.out.2⟩
end Go.Proofs.Ythegfkcegmeklaa
