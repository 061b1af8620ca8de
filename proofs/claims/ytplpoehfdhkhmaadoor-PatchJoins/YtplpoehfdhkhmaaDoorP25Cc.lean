import Derived.Test.YtplpoehfdhkhmaaDoorP25Mem

/-! The code's patch: rows that are grown, parts in memory. -/
namespace Go.Proofs.YtplpoehfdhkhmaaDoor
open Go.RowKit
set_option linter.unusedVariables false
set_option linter.unusedSimpArgs false
set_option maxRecDepth 100000

/-- What growing a row of one's own leaves: it lies where it lay or in new memory, and no other block is written. -/
structure Grw (N : Nat) (ao ao' : Option Addr) (w w' : World) : Prop where
  bel : Below N w w'
  size : w.heap.size <= w'.heap.size
  oth : ∀ k, k < w.heap.size -> (∀ g, ao = some ⟨g, 0, none⟩ -> k ≠ g) -> w'.heap[k]? = w.heap[k]?
  loc : ao' = ao ∨ ∃ g', ao' = some ⟨g', 0, none⟩ /\ w.heap.size <= g'
theorem Grw.refl (N : Nat) (ao : Option Addr) (w : World) : Grw N ao ao w w := ⟨Below.refl _ _, Nat.le_refl _, fun _ _ _ => rfl, .inl rfl⟩
theorem Grw.trans {N : Nat} {a b c : Option Addr} {w w' w'' : World} (h : Grw N a b w w') (k : Grw N b c w' w'') : Grw N a c w w'' := by
  refine ⟨h.bel.trans k.bel, Nat.le_trans h.size k.size, fun i hi hne => ?_, ?_⟩
  · refine (k.oth i (Nat.lt_of_lt_of_le hi h.size) fun g hg e => ?_).trans (h.oth i hi hne)
    rcases h.loc with e1 | ⟨g', e1, h1⟩
    · exact hne g (by rw [<- e1]; exact hg) e
    · rw [e1] at hg; injection hg with hg; injection hg with hg; omega
  · rcases k.loc with e1 | ⟨g', e1, h1⟩
    · rw [e1]; exact h.loc
    · exact .inr ⟨g', e1, Nat.le_trans h.size h1⟩
/-- New memory alone. -/
theorem Grw.of_below {N : Nat} {ao : Option Addr} {w w' : World} (h : Below w.heap.size w w') (hN : N <= w.heap.size) : Grw N ao ao w w' :=
  ⟨h.mono hN, h.size, fun k hk _ => h.block k hk, .inl rfl⟩
theorem Grw.alloc (N : Nat) (ao : Option Addr) (w : World) (o : Obj) (hN : N <= w.heap.size) : Grw N ao ao w (w.alloc o) := .of_below ((Below.refl _ _).alloc (Nat.le_refl _) _) hN
/-- From nothing: all that was there stands. -/
theorem Grw.fresh {N : Nat} {b : Option Addr} {w w' : World} (h : Grw N none b w w') : Below w.heap.size w w' :=
  ⟨h.bel.os, h.bel.tape, h.bel.output, h.size, fun k hk => h.oth k hk (fun g e => by cases e)⟩
theorem Grw.row {N : Nat} {a b : Option Addr} {w w' : World} (h : Grw N a b w w') {g t : Nat} {cs : List Value} (hr : Row w g t cs) (hne : a ≠ some ⟨g, 0, none⟩) : Row w' g t cs :=
  (h.oth g hr.lt (fun q e e2 => hne (by rw [e, e2]))).trans hr
theorem Grw.isb {N : Nat} {a b : Option Addr} {w w' : World} (h : Grw N a b w w') {po : Option Addr} {m : List By} (hp : IsB w po m) (hne : ∀ B off, m ≠ [] -> po = some ⟨B, off, none⟩ -> a ≠ some ⟨B, 0, none⟩) : IsB w' po m := by
  rcases hp with rfl | ⟨B, off, e, hc⟩
  · exact .inl rfl
  · by_cases hm : m = []
    · exact .inl hm
    · refine .inr ⟨B, off, e, fun j v hj => ?_⟩
      have h1 := hc j v hj
      have h2 := h.oth B (cell_lt25 h1) (fun q eq e2 => hne B off hm e (by rw [eq, e2]))
      exact (World.cell?_of_block (w := w) h2).trans h1
theorem Grw.own {N M : Nat} {a b : Option Addr} {w w' : World} (h : Grw N a b w w') {ao : Option Addr} {n c : Nat} {m : List By} (ho : Own M w (.slice ao n c) m) (hne : a = none ∨ ao = none ∨ ao ≠ a) : Own M w' (.slice ao n c) m := by
  have hl := (own_isb ho).1
  have h1 := ho.1
  rw [hl] at h1
  refine ⟨?_, Nat.le_trans ho.2 h.size⟩
  rw [hl]
  refine own_keepL h1 fun B e => ?_
  subst e
  refine h.oth B (h1.lt B rfl).2 fun g e e2 => ?_
  subst e2
  rcases hne with rfl | h1 | h1
  · cases e
  · cases h1
  · exact h1 e.symm
theorem el_cparts : ElT 60 70 1 16 .nilIface := ⟨Tryd.underlying60, by kernel_rfl, rfl, by omega⟩
/-- Bytes behind bytes of one's own. -/
theorem wpList_append_grw {ops : Array Oper} {rest : List Oper} {o : Oper} {a : Act} {w : World} {Q : Exit -> Act -> World -> Prop} (hgd : o.guard = none) (s x : Operand)
    (ho : o.op = .call { callee := .builtin .append, args := #[s, x], argTypes := #[23, 23] })
    (N : Nat) (aoD : Option Addr) (nD capD : Nat) (m : List By) (hs : a.eval s = .slice aoD nD capD) (hown : Own N w (.slice aoD nD capD) m)
    (B off n cap : Nat) (b : List By) (hx : a.eval x = .slice (some ⟨B, off, none⟩) n cap) (hn : b.length = n) (hb : IsB w (some ⟨B, off, none⟩) b) (hn0 : 0 < n) (hl : nD + n < 140737488353280)
    (h : ∀ ao' cap' w', Own N w' (.slice ao' (nD + n) cap') (m ++ b) -> Grw N aoD ao' w w' -> wpList Tryd.prog ops Q rest (a.put o.dst (.slice ao' (nD + n) cap')) w') : wpList Tryd.prog ops Q (o :: rest) a w := by
  have hlen := hown.len
  have h1 := hown.1
  rw [hlen] at h1
  have hc : ∀ j u, (b.map B8)[j]? = some u -> w.cell? ⟨B, off + j, none⟩ = some u := by
    rcases hb with rfl | ⟨B', off', e, hc⟩
    · simp
    · injection e with e; injection e with e1 e2; subst e1; subst e2
      intro j u hu
      rw [List.getElem?_map] at hu
      obtain ⟨q, hq, rfl⟩ := Option.map_eq_some_iff.1 hu
      exact hc j q hq
  refine wpList_append_where el_bytes hgd s x ho N w aoD nD capD (m.map B8) hs h1 hown.2 (Below.refl _ _) B off n cap (b.map B8) hx (by rw [List.length_map, hn, Nat.mul_one]) hc hn0 (B8_one _) (by unfold maxLen; omega) (by omega) ?_
  intro ao' cap' w' q1 q2 q3 q4 q5
  refine h ao' cap' w' ⟨?_, Nat.le_trans hown.2 q3⟩ ⟨q2, q3, q4, q5.imp id fun e => ⟨_, e, Nat.le_refl _⟩⟩
  rw [List.length_append, hlen, List.map_append, hn]
  exact q1
/-- One byte, out of a literal, behind bytes of one's own. -/
theorem wpList_append1_grw {ops : Array Oper} {rest : List Oper} {o : Oper} {a : Act} {w : World} {Q : Exit -> Act -> World -> Prop} (hgd : o.guard = none) (s x : Operand)
    (ho : o.op = .call { callee := .builtin .append, args := #[s, x], argTypes := #[23, 23] })
    (N : Nat) (aoD : Option Addr) (nD capD : Nat) (m : List By) (hs : a.eval s = .slice aoD nD capD) (hown : Own N w (.slice aoD nD capD) m)
    (g0 : Nat) (hg0 : g0 = w.heap.size) (hx : a.eval x = .slice (some ⟨g0, 0, none⟩) 1 1) (y : By) (v : Int) (hv : v = (y.toNat : Int)) (hl : nD + 1 < 140737488353280)
    (h : ∀ ao' cap' w', Own N w' (.slice ao' (nD + 1) cap') (m ++ [y]) -> Grw N aoD ao' w w' -> wpList Tryd.prog ops Q rest (a.put o.dst (.slice ao' (nD + 1) cap')) w') : wpList Tryd.prog ops Q (o :: rest) a (w.alloc (.cells #[.int .u8 v] 5)) := by
  subst hg0; subst hv
  have hr : Row (w.alloc (.cells #[.int .u8 (y.toNat : Int)] 5)) w.heap.size 5 [B8 y] := Row.at w _ _ _ _ rfl rfl
  refine wpList_append_grw hgd s x ho N aoD nD capD m hs (hown.keep ((Below.refl _ _).alloc (Nat.le_refl _) _)) w.heap.size 0 1 1 [y] hx rfl (.inr ⟨_, _, rfl, fun j u hu => ?_⟩) (by omega) hl ?_
  · rw [Nat.zero_add]
    exact hr.cell j (B8 u) (by cases j with | zero => simp at hu; subst hu; rfl | succ j => simp at hu)
  · intro ao' cap' w' h1 h2
    exact h ao' cap' w' h1 ((Grw.alloc N aoD w _ hown.2).trans h2)
/-- One part behind parts of one's own. -/
theorem wpList_append_part {ops : Array Oper} {rest : List Oper} {o : Oper} {a : Act} {w : World} {Q : Exit -> Act -> World -> Prop} (hgd : o.guard = none) (s x : Operand)
    (ho : o.op = .call { callee := .builtin .append, args := #[s, x], argTypes := #[60, 60] })
    (N : Nat) (hN : N <= w.heap.size) (aoD : Option Addr) (nD capD : Nat) (vs : List Value) (hs : a.eval s = .slice aoD nD capD) (hown : w.ownsRow N 70 1 (.slice aoD nD capD) nD vs)
    (g0 : Nat) (hg0 : g0 = w.heap.size) (hx : a.eval x = .slice (some ⟨g0, 0, none⟩) 1 1) (v : Value) (hv : v.oneCell' = true) (hl : nD <= 4000000)
    (h : ∀ ao' cap' w', w'.ownsRow N 70 1 (.slice ao' (nD + 1) cap') (nD + 1) (vs ++ [v]) -> Grw N aoD ao' w w' -> wpList Tryd.prog ops Q rest (a.put o.dst (.slice ao' (nD + 1) cap')) w') : wpList Tryd.prog ops Q (o :: rest) a (w.alloc (.cells #[v] 70)) := by
  subst hg0
  have hr : Row (w.alloc (.cells #[v] 70)) w.heap.size 70 [v] := Row.at w _ _ _ _ rfl rfl
  refine wpList_append_where el_cparts hgd s x ho N (w.alloc (.cells #[v] 70)) aoD nD capD vs hs (hown.alloc _) (by simp; omega) (Below.refl _ _) w.heap.size 0 1 1 [v] hx rfl (fun j u hu => by rw [Nat.zero_add]; exact hr.cell j u hu) (by omega) (by intro u hu; rw [List.mem_singleton] at hu; subst hu; exact hv) (by unfold maxLen; omega) (by omega) ?_
  intro ao' cap' w' q1 q2 q3 q4 q5
  exact h ao' cap' w' q1 ((Grw.alloc N aoD w _ hN).trans ⟨q2, q3, q4, q5.imp id fun e => ⟨_, e, Nat.le_refl _⟩⟩)
abbrev layV (bo : Option Addr) (n c : Nat) : Value := .iface 106 (.agg #[.slice bo n c])
abbrev spV (f n : Nat) : Value := .iface 108 (.agg #[.int .i64 (f : Int), .int .i64 (n : Int)])
/-- A part behind the interface: a copy, or a lay whose bytes can be read and lie in a block below N. -/
structure PaV (N : Nat) (W : World) (y : Pt) (v : Value) : Prop where
  eq : (y.lay = false /\ v = spV y.frm y.n) ∨ (y.lay = true /\ ∃ B off c, v = layV (some ⟨B, off, none⟩) y.n c /\ IsB W (some ⟨B, off, none⟩) y.b /\ y.b.length = y.n /\ y.n <= c /\ B < N)
theorem IsB.keepN {W W' : World} {B off N : Nat} {m : List By} (h : IsB W (some ⟨B, off, none⟩) m) (hb : Below N W W') (hB : B < N) : IsB W' (some ⟨B, off, none⟩) m := by
  rcases h with h | ⟨B', off', e, hc⟩
  · exact .inl h
  · injection e with e; injection e with e1 e2; subst e1; subst e2
    exact .inr ⟨_, _, rfl, fun j v hj => (World.cell?_of_block (w := W) (hb.block B hB)).trans (hc j v hj)⟩
theorem PaV.keep {N : Nat} {W W' : World} {y : Pt} {v : Value} (h : PaV N W y v) (hb : Below N W W') : PaV N W' y v := by
  rcases h.eq with ⟨h1, h2⟩ | ⟨h1, B, off, c, h2, h3, h4, h5, h6⟩
  · exact ⟨.inl ⟨h1, h2⟩⟩
  · exact ⟨.inr ⟨h1, B, off, c, h2, h3.keepN hb h6, h4, h5, h6⟩⟩
/-- A row of parts in memory from N on. -/
structure PaR (N : Nat) (W : World) (l : List Pt) (lo : Option Addr) (lc : Nat) : Prop where
  sz : N <= W.heap.size
  vs : ∃ vs : List Value, vs.length = l.length /\ W.ownsRow N 70 1 (.slice lo l.length lc) l.length vs /\ ∀ (i : Nat) (y : Pt) (v : Value), l[i]? = some y -> vs[i]? = some v -> PaV N W y v
theorem PaR.keep {N : Nat} {W W' : World} {l : List Pt} {lo : Option Addr} {lc : Nat} (h : PaR N W l lo lc) (hb : Below W.heap.size W W') : PaR N W' l lo lc := by
  obtain ⟨vs, h1, h2, h3⟩ := h.vs
  exact ⟨Nat.le_trans h.sz hb.size, vs, h1, own_keepL h2 fun B e => hb.block B (by subst e; exact (h2.lt B rfl).2), fun i y v hi hv => (h3 i y v hi hv).keep (hb.mono h.sz)⟩
/-- Under what keeps all below N and the row itself. -/
theorem PaR.grw {N : Nat} {W W' : World} {l : List Pt} {lo : Option Addr} {lc : Nat} (h : PaR N W l lo lc) {a b : Option Addr} (hg : Grw N a b W W') (hne : ∀ g, lo = some ⟨g, 0, none⟩ -> a ≠ some ⟨g, 0, none⟩) : PaR N W' l lo lc := by
  obtain ⟨vs, h1, h2, h3⟩ := h.vs
  exact ⟨Nat.le_trans h.sz hg.size, vs, h1, own_keepL h2 fun B e => hg.oth B (by subst e; exact (h2.lt B rfl).2) (fun q e1 e2 => hne B e (by rw [e1, e2])), fun i y v hi hv => (h3 i y v hi hv).keep hg.bel⟩
theorem PaR.nil (N : Nat) (W : World) (hN : N <= W.heap.size) : PaR N W [] none 0 := ⟨hN, [], rfl, World.ownsRow_nil _ _ _ _, fun i y v h => by simp at h⟩
theorem PaR.at {N : Nat} {W : World} {l : List Pt} {lo : Option Addr} {lc : Nat} (h : PaR N W l lo lc) {i : Nat} {y : Pt} (hi : l[i]? = some y) : ∃ B v, lo = some ⟨B, 0, none⟩ /\ W.cell? ⟨B, i, none⟩ = some v /\ PaV N W y v := by
  obtain ⟨vs, h1, h2, h3⟩ := h.vs
  have hil := (List.getElem?_eq_some_iff.1 hi).1
  have hv : vs[i]? = some vs[i] := List.getElem?_eq_getElem (by omega)
  rcases h2.2 with ⟨e1, e2⟩ | ⟨g, c', cur, e1, _⟩
  · omega
  · injection e1 with e1
    subst e1
    have := h2.cells (g := g) rfl i _ hv
    rw [Addr.add_mid, Nat.zero_add] at this
    exact ⟨g, _, rfl, this, h3 i y _ hi hv⟩
/-- A part more. -/
theorem PaR.snoc {N : Nat} {W W' : World} {l : List Pt} {y : Pt} {v : Value} {vs : List Value} (hN : N <= W'.heap.size) (h1 : vs.length = l.length) (h3 : ∀ (i : Nat) (y : Pt) (v : Value), l[i]? = some y -> vs[i]? = some v -> PaV N W' y v) {lo' : Option Addr} {lc' : Nat} (ho : W'.ownsRow N 70 1 (.slice lo' (l.length + 1) lc') (l.length + 1) (vs ++ [v])) (hv : PaV N W' y v) : PaR N W' (l ++ [y]) lo' lc' := by
  refine ⟨hN, vs ++ [v], by simp [h1], by rw [List.length_append]; exact ho, fun i z u hz hu => ?_⟩
  by_cases hi : i < l.length
  · rw [List.getElem?_append_left hi] at hz
    rw [List.getElem?_append_left (by omega)] at hu
    exact h3 i z u hz hu
  · have hi2 := (List.getElem?_eq_some_iff.1 hz).1
    simp at hi2
    have e : i = l.length := by omega
    rw [e, List.getElem?_append_right (Nat.le_refl _)] at hz
    rw [e, List.getElem?_append_right (by omega)] at hu
    simp at hz
    simp [h1] at hu
    subst hz; subst hu; exact hv
end Go.Proofs.YtplpoehfdhkhmaaDoor


/-! The code's patch: numbers, read and put. -/
namespace Go.Proofs.YtplpoehfdhkhmaaDoor
open Go.RowKit
set_option linter.unusedVariables false
set_option linter.unusedSimpArgs false
set_option maxRecDepth 100000

def numTo (p : List By) : Nat -> Nat
  | 0 => 0
  | k + 1 => numTo p k + (p.getD k 0).toNat * 2 ^ (8 * k)
theorem numTo_lt (p : List By) : ∀ k, numTo p k < 2 ^ (8 * k)
  | 0 => by simp [numTo]
  | k + 1 => by
    have h := numTo_lt p k
    have hb := (p.getD k 0).isLt
    rw [numTo, show 8 * (k + 1) = 8 * k + 8 by omega, Nat.pow_add]
    have h2 : (p.getD k 0).toNat * 2 ^ (8 * k) <= 255 * 2 ^ (8 * k) := Nat.mul_le_mul_right _ (by omega)
    omega
theorem or_num (p : List By) (k : Nat) (hk : k < 8) : bits .or .u64 (numTo p k : Int) ((((p.getD k 0).toNat : Nat) : Int) * 2 ^ (8 * k) % 18446744073709551616) = (numTo p (k + 1) : Int) := by
  have h0 := numTo_lt p k
  have h1 := numTo_lt p (k + 1)
  have hb := (p.getD k 0).isLt
  have hx : (p.getD k 0).toNat * 2 ^ (8 * k) < 18446744073709551616 := by
    have h2 : (p.getD k 0).toNat * 2 ^ (8 * k) <= numTo p (k + 1) := by rw [numTo]; omega
    have h3 : 2 ^ (8 * (k + 1)) <= 2 ^ 64 := Nat.pow_le_pow_right (by omega) (by omega)
    have h4 : (2 : Nat) ^ 64 = 18446744073709551616 := rfl
    omega
  have ha : numTo p k < 18446744073709551616 := by
    have h3 : 2 ^ (8 * k) <= 2 ^ 64 := Nat.pow_le_pow_right (by omega) (by omega)
    have h4 : (2 : Nat) ^ 64 = 18446744073709551616 := rfl
    omega
  have e1 : ((((p.getD k 0).toNat : Nat) : Int) * 2 ^ (8 * k) % 18446744073709551616) = (((p.getD k 0).toNat * 2 ^ (8 * k) : Nat) : Int) := by
    rw [show ((((p.getD k 0).toNat : Nat) : Int) * 2 ^ (8 * k)) = (((p.getD k 0).toNat * 2 ^ (8 * k) : Nat) : Int) by simp [Int.natCast_mul, Int.natCast_pow]]
    omega
  rw [e1]
  have e2 : numTo p k ||| (p.getD k 0).toNat * 2 ^ (8 * k) = numTo p (k + 1) := by
    rw [numTo, Nat.or_comm, <- Nat.shiftLeft_eq, <- Nat.shiftLeft_add_eq_or_of_lt h0, Nat.add_comm]
  generalize (p.getD k 0).toNat * 2 ^ (8 * k) = y at *
  show IntKind.u64.wrap ((BitVec.ofInt 64 (numTo p k : Int) ||| BitVec.ofInt 64 (y : Int)).toNat : Int) = _
  have e3 : (BitVec.ofInt 64 (numTo p k : Int) ||| BitVec.ofInt 64 (y : Int)).toNat = numTo p (k + 1) := by
    rw [BitVec.toNat_or]
    have q1 : (BitVec.ofInt 64 (numTo p k : Int)).toNat = numTo p k := by rw [BitVec.toNat_ofInt]; omega
    have q2 : (BitVec.ofInt 64 (y : Int)).toNat = y := by rw [BitVec.toNat_ofInt]; omega
    rw [q1, q2, e2]
  rw [e3]
  have : numTo p (k + 1) < 18446744073709551616 := by
    rw [<- e3]; exact (BitVec.isLt _)
  simp [IntKind.wrap, IntKind.bits, IntKind.signed]
  omega

theorem wrapU64 (z : Int) : IntKind.u64.wrap z = z % 18446744073709551616 := by simp [IntKind.wrap, IntKind.bits, IntKind.signed]
theorem numTo_4 (p : List By) : numTo p 4 = num4 p := by simp [numTo, num4]
set_option maxHeartbeats 1000000 in
theorem cnum_any (B off n cap : Nat) (p : List By) (at_ : Nat) (w : World) (hn : p.length = n) (ha : at_ + 4 <= n) (hc : n <= cap) (hm : n <= 140737488351232) (hp : IsB w (some ⟨B, off, none⟩) p) :
    Calls Tryd.prog 74 #[.slice (some ⟨B, off, none⟩) n cap, .int .i64 (at_ : Int)] w fun e w' => e = .returned (.int .u64 (num4 (p.drop at_) : Int)) /\ w' = w := by
  have HB : Hid (∀ j, j < 4 -> w.cell? ⟨B, off + at_ + j, none⟩ = some (.int .u8 (((p.drop at_).getD j 0).toNat : Int))) := fun j hj => by
    rcases hp with rfl | ⟨B', off', e, h⟩
    · simp at hn; omega
    · injection e with e; injection e with e1 e2; subst e1; subst e2
      have hl : at_ + j < p.length := by omega
      have := h (at_ + j) p[at_ + j] (List.getElem?_eq_getElem hl)
      rw [<- Nat.add_assoc] at this
      rw [this]
      have e : (p.drop at_).getD j 0 = p[at_ + j] := by
        rw [List.getD_eq_getElem?_getD, List.getElem?_drop, List.getElem?_eq_getElem hl]; rfl
      rw [e]; rfl
  have z1 : IntKind.i64.wrap ((at_ : Int) + 4) = (at_ : Int) + 4 := i64_in _ (by omega) (by omega)
  have y0 : (0 : Int) <= (at_ : Int) := by omega
  have y1 : (at_ : Int) <= (at_ : Int) + 4 := by omega
  have y2 : (at_ : Int) + 4 <= (cap : Int) := by omega
  have y3 : ¬ cap = at_ := by omega
  have HF : Hid (numTo (p.drop at_) 4 = num4 (p.drop at_)) := numTo_4 _
  generalize p.drop at_ = q at *
  clear hp hn ha hc hm
  go_enter Tryd.func74, Tryd.ntmps74
  go_wp2
  go_loopw [5, 6, 7, 14] (fun nv u6 u7 iv wr => ∃ i : Nat, i <= 4 /\ nv = .int .u64 (numTo q i) /\ iv = .int .i64 i /\ wr = w) (fun _ _ _ iv _ => 4 - (intOf iv).toNat)
  case atStart => exact ⟨0, by omega, rfl, rfl, rfl⟩
  case round =>
    obtain ⟨i, hi, rfl, rfl, rfl⟩ := hrel
    by_cases hlt : i < 4
    · have x0 : (0 : Int) <= (i : Int) := by omega
      have x1 : (i : Int) < 4 := by omega
      have z2 : IntKind.i64.wrap (8 * (i : Int)) = 8 * (i : Int) := i64_in _ (by omega) (by omega)
      have c := HB.out i hlt
      have HO : Hid (bits .or .u64 (numTo q i : Int) ((((q.getD i 0).toNat : Nat) : Int) * 2 ^ (8 * i) % 18446744073709551616) = (numTo q (i + 1) : Int)) := or_num q i (by omega)
      have ho := HO.out
      go_wp2
      exact ⟨⟨i + 1, by omega, by rw [wrapU64]; exact congrArg _ ho, by go_num, by first | rfl | trivial⟩, by simp [intOf]; omega⟩
    · obtain rfl : i = 4 := by omega
      have x1 : ¬ ((4 : Nat) : Int) < 4 := by omega
      go_wp2
      go_ret
      exact ⟨by rw [<- HF.out]; rfl, rfl⟩
/-- What is answered by calls that put bytes behind one's own. -/
def PutP (N : Nat) (ao : Option Addr) (w : World) (n : Nat) (M : List By) (e : Ending) (w' : World) : Prop := ∃ ao' c', e = .returned (.slice ao' n c') /\ Own N w' (.slice ao' n c') M /\ Grw N ao ao' w w'
theorem le4_take (k i : Nat) (h : i < 4) : (le4 k).take (i + 1) = (le4 k).take i ++ [BitVec.ofNat 8 (k / 256 ^ i)] := by
  rcases (by omega : i = 0 ∨ i = 1 ∨ i = 2 ∨ i = 3) with rfl | rfl | rfl | rfl <;> simp [le4]
theorem ofNat_mod8 (x : Nat) : ((BitVec.ofNat 8 x : By).toNat : Int) = (x : Int) % 256 := by rw [BitVec.toNat_ofNat]; omega
set_option maxHeartbeats 1000000 in
theorem cputn_any (N : Nat) (ao : Option Addr) (n c : Nat) (m : List By) (k : Nat) (w : World) (hown : Own N w (.slice ao n c) m) (hn : n <= 1000000000) (hk : k < 4294967296) :
    Calls Tryd.prog 50 #[.slice ao n c, .int .i64 (k : Int)] w (PutP N ao w (n + 4) (m ++ le4 k)) := by
  have H0 : Hid (Own N w (.slice ao n c) m) := hown
  have HK : Hid (k < 4294967296) := hk
  clear hown hk
  go_enter Tryd.func50, Tryd.ntmps50
  go_wp2
  go_loopw [0, 1, 5] (fun sv kv iv wr => ∃ (i : Nat) (ao' : Option Addr) (c' : Nat), i <= 4 /\ sv = .slice ao' (n + i) c' /\ kv = .int .i64 ((k / 256 ^ i : Nat) : Int) /\ iv = .int .i64 i /\ Hid (Own N wr (.slice ao' (n + i) c') (m ++ (le4 k).take i) /\ Grw N ao ao' w wr)) (fun _ _ iv _ => 4 - (intOf iv).toNat)
  case atStart => exact ⟨0, ao, c, by omega, rfl, by simp, rfl, by simpa using H0.out, Grw.refl _ _ _⟩
  case round =>
    obtain ⟨i, ao', c', hi, rfl, rfl, rfl, HI⟩ := hrel
    by_cases hlt : i < 4
    · have x0 : (0 : Int) <= (i : Int) := by omega
      have x1 : (i : Int) < 4 := by omega
      have z1 : IntKind.i64.wrap ((i : Int) + 1) = (i : Int) + 1 := i64_in _ (by omega) (by omega)
      have HT : Hid ((le4 k).take (i + 1) = (le4 k).take i ++ [BitVec.ofNat 8 (k / 256 ^ i)]) := le4_take k i hlt
      have HV : Hid (((k : Int) / 256 ^ i % 256) = ((BitVec.ofNat 8 (k / 256 ^ i) : By).toNat : Int)) := by
        show _ = _
        rw [ofNat_mod8]; push_cast; rfl
      go_wp2_with (at_builtin; refine wpList_append1_grw rfl (.tmp 7) (.tmp 10) rfl N ao' (n + i) c' _ rfl HI.out.1 wr.heap.size rfl rfl (BitVec.ofNat 8 (k / 256 ^ i)) _ HV.out (by omega) ?_; intro ao2 c2 w2 ho2 hg2; have H2 : Hid (Own N w2 (.slice ao2 (n + i + 1) c2) (m ++ (le4 k).take (i + 1)) /\ Grw N ao ao2 w w2) := ⟨by rw [HT.out, <- List.append_assoc]; exact ho2, HI.out.2.trans hg2⟩; clear ho2 hg2)
      have e1 : ((k : Int) / 256 ^ i / 256) = ((k / 256 ^ (i + 1) : Nat) : Int) := by
        rw [Nat.pow_succ, <- Nat.div_div_eq_div_mul]; push_cast; rfl
      refine ⟨⟨i + 1, ao2, c2, by omega, rfl, by rw [e1], by go_num, H2⟩, by simp [intOf]; omega⟩
    · obtain rfl : i = 4 := by omega
      have x1 : ¬ ((4 : Nat) : Int) < 4 := by omega
      go_wp2
      go_ret
      exact ⟨ao', c', rfl, HI.out.1, HI.out.2⟩
end Go.Proofs.YtplpoehfdhkhmaaDoor


/-! The code's patch: whether a part goes on where another one has ended. -/
namespace Go.Proofs.YtplpoehfdhkhmaaDoor
open Go.RowKit
set_option linter.unusedVariables false
set_option linter.unusedSimpArgs false
set_option maxRecDepth 100000

set_option maxHeartbeats 1000000 in
theorem goes_nil (x : Value) (w : World) : Calls Tryd.prog 70 #[.nilIface, x] w fun e w' => e = .returned (.bool false) /\ Below w.heap.size w w' := by
  have TA0 : ∀ W, Sem.run Tryd.prog (Instr.typeAssert (.nilIface) 70 108 true) W = .ok (.tuple #[.agg #[.int .i64 0, .int .i64 0], .bool false]) W := fun W => by kernel_rfl
  have TA1 : ∀ W, Sem.run Tryd.prog (Instr.typeAssert (.nilIface) 70 106 true) W = .ok (.tuple #[.agg #[.slice none 0 0], .bool false]) W := fun W => by kernel_rfl
  go_enter Tryd.func70, Tryd.ntmps70
  go_wp2
  go_ret
  refine ⟨?_, ?_⟩
  · first | rfl | (simp; done)
  · repeat first | exact Below.refl _ _ | refine Below.setCell ?_ (by simp) _ | refine Below.alloc ?_ (by simp) _ | refine Below.drew ?_
set_option maxHeartbeats 1000000 in
theorem goes_ss (f n f2 n2 : Nat) (w : World) (h1 : f + n < 4000000000000) (h2 : f2 < 4000000000000) : Calls Tryd.prog 70 #[.iface 108 (.agg #[.int .i64 (f : Int), .int .i64 (n : Int)]), .iface 108 (.agg #[.int .i64 (f2 : Int), .int .i64 (n2 : Int)])] w fun e w' => e = .returned (.bool (decide (f2 = f + n))) /\ Below w.heap.size w w' := by
  have TA0 : ∀ W, Sem.run Tryd.prog (Instr.typeAssert (.iface 108 (.agg #[.int .i64 (f : Int), .int .i64 (n : Int)])) 70 108 true) W = .ok (.tuple #[.agg #[.int .i64 (f : Int), .int .i64 (n : Int)], .bool true]) W := fun W => by kernel_rfl
  have TA1 : ∀ W, Sem.run Tryd.prog (Instr.typeAssert (.iface 108 (.agg #[.int .i64 (f2 : Int), .int .i64 (n2 : Int)])) 70 108 true) W = .ok (.tuple #[.agg #[.int .i64 (f2 : Int), .int .i64 (n2 : Int)], .bool true]) W := fun W => by kernel_rfl
  have z1 : IntKind.i64.wrap ((f : Int) + (n : Int)) = (f : Int) + (n : Int) := i64_in _ (by omega) (by omega)
  go_enter Tryd.func70, Tryd.ntmps70
  go_wp2
  go_ret
  refine ⟨?_, ?_⟩
  · have e : ((f2 : Int) == (f : Int) + (n : Int)) = decide (f2 = f + n) := by
      rw [Bool.eq_iff_iff]
      simp only [beq_iff_eq, decide_eq_true_eq]
      omega
    simp [e]
  · repeat first | exact Below.refl _ _ | refine Below.setCell ?_ (by simp) _ | refine Below.alloc ?_ (by simp) _ | refine Below.drew ?_
set_option maxHeartbeats 1000000 in
theorem goes_sl (f n : Nat) (bo : Option Addr) (n2 c2 : Nat) (w : World) : Calls Tryd.prog 70 #[.iface 108 (.agg #[.int .i64 (f : Int), .int .i64 (n : Int)]), .iface 106 (.agg #[.slice bo n2 c2])] w fun e w' => e = .returned (.bool false) /\ Below w.heap.size w w' := by
  have TA0 : ∀ W, Sem.run Tryd.prog (Instr.typeAssert (.iface 108 (.agg #[.int .i64 (f : Int), .int .i64 (n : Int)])) 70 108 true) W = .ok (.tuple #[.agg #[.int .i64 (f : Int), .int .i64 (n : Int)], .bool true]) W := fun W => by kernel_rfl
  have TA1 : ∀ W, Sem.run Tryd.prog (Instr.typeAssert (.iface 106 (.agg #[.slice bo n2 c2])) 70 108 true) W = .ok (.tuple #[.agg #[.int .i64 0, .int .i64 0], .bool false]) W := fun W => by kernel_rfl
  go_enter Tryd.func70, Tryd.ntmps70
  go_wp2
  go_ret
  refine ⟨?_, ?_⟩
  · first | rfl | (simp; done)
  · repeat first | exact Below.refl _ _ | refine Below.setCell ?_ (by simp) _ | refine Below.alloc ?_ (by simp) _ | refine Below.drew ?_
set_option maxHeartbeats 1000000 in
theorem goes_ls (ao : Option Addr) (n c f2 n2 : Nat) (w : World) : Calls Tryd.prog 70 #[.iface 106 (.agg #[.slice ao n c]), .iface 108 (.agg #[.int .i64 (f2 : Int), .int .i64 (n2 : Int)])] w fun e w' => e = .returned (.bool false) /\ Below w.heap.size w w' := by
  have TA0 : ∀ W, Sem.run Tryd.prog (Instr.typeAssert (.iface 106 (.agg #[.slice ao n c])) 70 108 true) W = .ok (.tuple #[.agg #[.int .i64 0, .int .i64 0], .bool false]) W := fun W => by kernel_rfl
  have TA1 : ∀ W, Sem.run Tryd.prog (Instr.typeAssert (.iface 106 (.agg #[.slice ao n c])) 70 106 true) W = .ok (.tuple #[.agg #[.slice ao n c], .bool true]) W := fun W => by kernel_rfl
  have TA2 : ∀ W, Sem.run Tryd.prog (Instr.typeAssert (.iface 108 (.agg #[.int .i64 (f2 : Int), .int .i64 (n2 : Int)])) 70 106 true) W = .ok (.tuple #[.agg #[.slice none 0 0], .bool false]) W := fun W => by kernel_rfl
  go_enter Tryd.func70, Tryd.ntmps70
  go_wp2
  go_ret
  refine ⟨?_, ?_⟩
  · first | rfl | (simp; done)
  · repeat first | exact Below.refl _ _ | refine Below.setCell ?_ (by simp) _ | refine Below.alloc ?_ (by simp) _ | refine Below.drew ?_
set_option maxHeartbeats 1000000 in
theorem goes_ll (ao : Option Addr) (n c : Nat) (bo : Option Addr) (n2 c2 : Nat) (w : World) : Calls Tryd.prog 70 #[.iface 106 (.agg #[.slice ao n c]), .iface 106 (.agg #[.slice bo n2 c2])] w fun e w' => e = .returned (.bool true) /\ Below w.heap.size w w' := by
  have TA0 : ∀ W, Sem.run Tryd.prog (Instr.typeAssert (.iface 106 (.agg #[.slice ao n c])) 70 108 true) W = .ok (.tuple #[.agg #[.int .i64 0, .int .i64 0], .bool false]) W := fun W => by kernel_rfl
  have TA1 : ∀ W, Sem.run Tryd.prog (Instr.typeAssert (.iface 106 (.agg #[.slice ao n c])) 70 106 true) W = .ok (.tuple #[.agg #[.slice ao n c], .bool true]) W := fun W => by kernel_rfl
  have TA2 : ∀ W, Sem.run Tryd.prog (Instr.typeAssert (.iface 106 (.agg #[.slice bo n2 c2])) 70 106 true) W = .ok (.tuple #[.agg #[.slice bo n2 c2], .bool true]) W := fun W => by kernel_rfl
  go_enter Tryd.func70, Tryd.ntmps70
  go_wp2
  go_ret
  refine ⟨?_, ?_⟩
  · first | rfl | (simp; done)
  · repeat first | exact Below.refl _ _ | refine Below.setCell ?_ (by simp) _ | refine Below.alloc ?_ (by simp) _ | refine Below.drew ?_
end Go.Proofs.YtplpoehfdhkhmaaDoor


/-! The code's patch: a part's size, what it tells, what is cut out of it. -/
namespace Go.Proofs.YtplpoehfdhkhmaaDoor
open Go.RowKit
set_option linter.unusedVariables false
set_option linter.unusedSimpArgs false
set_option maxRecDepth 100000

set_option maxHeartbeats 1000000 in
theorem ssize_any (f n : Nat) (w : World) : Calls Tryd.prog 114 #[.agg #[.int .i64 (f : Int), .int .i64 (n : Int)]] w fun e w' => e = .returned (.int .i64 (n : Int)) /\ Below w.heap.size w w' := by
  go_enter Tryd.func114, Tryd.ntmps114
  go_wp2
  go_ret
  exact ⟨rfl, (Below.refl _ _).alloc (Nat.le_refl _) _⟩
set_option maxHeartbeats 1000000 in
theorem lsize_any (bo : Option Addr) (n c : Nat) (w : World) : Calls Tryd.prog 110 #[.agg #[.slice bo n c]] w fun e w' => e = .returned (.int .i64 (n : Int)) /\ Below w.heap.size w w' := by
  go_enter Tryd.func110, Tryd.ntmps110
  go_wp2
  go_ret
  exact ⟨rfl, (Below.refl _ _).alloc (Nat.le_refl _) _⟩
set_option maxHeartbeats 1000000 in
theorem scut_any (f n a b : Nat) (w : World) (hab : a <= b) (hb : f + b < 4000000000000) : Calls Tryd.prog 112 #[.agg #[.int .i64 (f : Int), .int .i64 (n : Int)], .int .i64 (a : Int), .int .i64 (b : Int)] w fun e w' => e = .returned (spV (f + a) (b - a)) /\ Below w.heap.size w w' := by
  have z1 : IntKind.i64.wrap ((f : Int) + (a : Int)) = ((f + a : Nat) : Int) := by rw [i64_in _ (by omega) (by omega)]; push_cast; rfl
  have z2 : IntKind.i64.wrap ((b : Int) - (a : Int)) = ((b - a : Nat) : Int) := by rw [i64_in _ (by omega) (by omega)]; omega
  clear hab hb
  go_enter Tryd.func112, Tryd.ntmps112
  go_wp2
  go_ret
  exact ⟨by unfold spV; push_cast; rfl, (Below.refl _ _).alloc (Nat.le_refl _) _⟩
set_option maxHeartbeats 1000000 in
theorem lcut_any (B off n c a b : Nat) (w : World) (hab : a < b) (hb : b <= n) (hn : n <= c) (hm : n < 140737488353280) : Calls Tryd.prog 108 #[.agg #[.slice (some ⟨B, off, none⟩) n c], .int .i64 (a : Int), .int .i64 (b : Int)] w fun e w' => e = .returned (layV (some ⟨B, off + a, none⟩) (b - a) (c - a)) /\ Below w.heap.size w w' := by
  have y0 : (0 : Int) <= (a : Int) := by omega
  have y1 : (a : Int) <= (b : Int) := by omega
  have y2 : (b : Int) <= (c : Int) := by omega
  have y3 : ¬ c = a := by omega
  clear hab hb hn hm
  go_enter Tryd.func108, Tryd.ntmps108
  go_wp2
  go_ret
  exact ⟨by simp, (Below.refl _ _).alloc (Nat.le_refl _) _⟩
set_option maxHeartbeats 1000000 in
theorem stell_any (N : Nat) (f n : Nat) (ao : Option Addr) (m c : Nat) (M : List By) (B off on oc : Nat) (old : List By) (w : World) (hown : Own N w (.slice ao m c) M) (ho : old.length = on) (hoc : on <= oc) (hold : IsB w (some ⟨B, off, none⟩) old) (hn : 1 <= n) (hfn : f + n <= on) (hm : m <= 1000000000) (hon : on < 4000000000000) :
    Calls Tryd.prog 115 #[.agg #[.int .i64 (f : Int), .int .i64 (n : Int)], .slice ao m c, .slice (some ⟨B, off, none⟩) on oc] w (PutP N ao w (m + n) (M ++ (old.drop f).take n)) := by
  have z1 : IntKind.i64.wrap ((f : Int) + (n : Int)) = ((f + n : Nat) : Int) := by rw [i64_in _ (by omega) (by omega)]; push_cast; rfl
  have y0 : (0 : Int) <= (f : Int) := by omega
  have y1 : (f : Int) <= ((f + n : Nat) : Int) := by omega
  have y2 : ((f + n : Nat) : Int) <= (oc : Int) := by omega
  have y3 : ¬ oc = f := by omega
  have e1 : (((f + n : Nat) : Int) - (f : Int)).toNat = n := by omega
  have HO : Hid (Own N (w.alloc (.cells #[.int .i64 (f : Int), .int .i64 (n : Int)] 108)) (.slice ao m c) M) := hown.keep ((Below.refl _ _).alloc (Nat.le_refl _) _)
  have HG : Hid (Grw N ao ao w (w.alloc (.cells #[.int .i64 (f : Int), .int .i64 (n : Int)] 108))) := Grw.alloc N ao w _ hown.2
  have HB : Hid (IsB (w.alloc (.cells #[.int .i64 (f : Int), .int .i64 (n : Int)] 108)) (some ⟨B, off + f, none⟩) ((old.drop f).take n)) := by
    have h2 := hold.below ((Below.refl _ _).alloc (Nat.le_refl _) (.cells #[.int .i64 (f : Int), .int .i64 (n : Int)] 108)) (Nat.le_refl _)
    rcases h2 with rfl | ⟨B', off', e, h⟩
    · simp at ho; omega
    · injection e with e; injection e with e1 e2; subst e1; subst e2
      refine .inr ⟨_, _, rfl, fun j v hj => ?_⟩
      rw [List.getElem?_take] at hj
      split at hj
      · rw [List.getElem?_drop] at hj
        have := h _ _ hj
        rw [<- Nat.add_assoc] at this
        exact this
      · cases hj
  have HL : Hid (((old.drop f).take n).length = n) := by show _ = _; rw [List.length_take, List.length_drop]; omega
  clear hown hold ho hoc
  generalize (old.drop f).take n = T at *
  go_enter Tryd.func115, Tryd.ntmps115
  go_wp2_with (at_builtin; refine wpList_append_grw rfl (.tmp 7) (.tmp 16) rfl N ao m c M rfl HO.out B (off + f) n (oc - f) T (by show Value.slice (some ⟨B, off + f, none⟩) (f + n - f) (oc - f) = _; rw [Nat.add_sub_cancel_left]) HL.out HB.out (by omega) (by omega) ?_; intro ao2 c2 w2 ho2 hg2; have H2 : Hid (PutP N ao w (m + n) (M ++ T) (.returned (.slice ao2 (m + n) c2)) w2) := ⟨ao2, c2, rfl, ho2, HG.out.trans hg2⟩; clear ho2 hg2)
  go_ret
  exact H2.out
set_option maxHeartbeats 1000000 in
theorem ltell_any (N : Nat) (B off n bc : Nat) (b : List By) (ao : Option Addr) (m c : Nat) (M : List By) (ov : Value) (w : World) (hown : Own N w (.slice ao m c) M) (hb : b.length = n) (hbb : IsB w (some ⟨B, off, none⟩) b) (hn : 1 <= n) (hm : m <= 1000000000) (hn2 : n < 4000000000000) :
    Calls Tryd.prog 111 #[.agg #[.slice (some ⟨B, off, none⟩) n bc], .slice ao m c, ov] w (PutP N ao w (m + n) (M ++ b)) := by
  have HO : Hid (Own N (w.alloc (.cells #[.slice (some ⟨B, off, none⟩) n bc] 106)) (.slice ao m c) M) := hown.keep ((Below.refl _ _).alloc (Nat.le_refl _) _)
  have HG : Hid (Grw N ao ao w (w.alloc (.cells #[.slice (some ⟨B, off, none⟩) n bc] 106))) := Grw.alloc N ao w _ hown.2
  have HB : Hid (IsB (w.alloc (.cells #[.slice (some ⟨B, off, none⟩) n bc] 106)) (some ⟨B, off, none⟩) b) := hbb.below ((Below.refl _ _).alloc (Nat.le_refl _) _) (Nat.le_refl _)
  have HL : Hid (b.length = n) := hb
  clear hown hbb hb
  go_enter Tryd.func111, Tryd.ntmps111
  go_wp2_with (at_builtin; refine wpList_append_grw rfl (.tmp 7) (.tmp 9) rfl N ao m c M rfl HO.out B off n bc b rfl HL.out HB.out (by omega) (by omega) ?_; intro ao2 c2 w2 ho2 hg2; have H2 : Hid (PutP N ao w (m + n) (M ++ b) (.returned (.slice ao2 (m + n) c2)) w2) := ⟨ao2, c2, rfl, ho2, HG.out.trans hg2⟩; clear ho2 hg2)
  go_ret
  exact H2.out
end Go.Proofs.YtplpoehfdhkhmaaDoor
