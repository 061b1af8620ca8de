import Derived.Test.YtdfbfheceobboaaDoorP25Ka
import Derived.Test.YtdfbfheceobboaaDoorP25Wr

/-! PatchKeeps: wide, kept; what is asked of the code. -/
namespace Go.Proofs.YtdfbfheceobboaaDoor
open Go.RowKit
set_option linter.unusedVariables false
set_option linter.unusedSimpArgs false
set_option maxRecDepth 100000

/-- A slice without elements, with room. -/
theorem wpList_make_room {ops : Array Oper} {rest : List Oper} {o : Oper} {a : Act} {w : World} {Q : Exit → Act → World → Prop} (hg : o.guard = none) (l c : Operand) (hop : o.op = Op.makeSlice 22 l c)
    (m : Nat) (C : Int) (hl : a.eval l = .int .i64 0) (hc : a.eval c = .int .i64 C) (hC : C = (m : Int)) (hm : m ≤ 140737488355328)
    (hK : ∀ w', Own w.heap.size w' (.slice (some ⟨w.heap.size, 0, none⟩) 0 m) [] → Below w.heap.size w w' → wpList Tryd.prog ops Q rest (a.put o.dst (.slice (some ⟨w.heap.size, 0, none⟩) 0 m)) w') :
    wpList Tryd.prog ops Q (o :: rest) a w := by
  obtain ⟨i0, hi, hz0, hz1, hz2⟩ := info_parts Tryd.info5
  refine wpList_plain hg fun K hK' => ?_
  subst hC
  have hrun := run_make (P := Tryd.prog) w 22 5 i0 (.int .u8 0) Tryd.underlying22 hi hz0 .i64 .i64 (0 : Int) (m : Int) (by omega) (by omega) (by rw [hz2]; omega) (by omega)
  unfold Oper.wp
  simp [execOp, hop, hl, hc, hrun, Result.andThen]
  refine hK' _ _ (hK _ ?_ ?_)
  · refine ⟨⟨by simp, .inr ⟨w.heap.size, m, _, rfl, Nat.le_refl _, heap_alloc_new w _, by simp, by unfold maxLen; omega, ?_, by simp⟩⟩, by simp⟩
    rw [hz1, Nat.mul_one]
    have : (madeCells #[Value.int .u8 0] m).toList = (List.replicate m (0 : By)).map B8 := by
      rw [toList_madeCells_one]; simp [B8]
    have h2 : (madeCells #[Value.int .u8 0] m).size = m := by
      rw [← Array.length_toList, this]; simp
    simpa [Value.cells] using h2
  · exact (Below.refl _ _).alloc (Nat.le_refl _) _

def mk3w : List By := [161#8, 162#8, 163#8]
theorem mk3w_str : strOf mk3w = { data := #[161, 162, 163] } := rfl
/-- A row in memory of its own, with marked room behind it. -/
structure Wid (N : Nat) (W : World) (g n c : Nat) (bs : List By) : Prop where
  own : Own N W (.slice (some ⟨g, 0, none⟩) (n + 3) c) (bs ++ mk3w)
  len : bs.length = n
  big : n ≤ 140737488351232
theorem Wid.keep {N : Nat} {W W2 : World} {g n c : Nat} {bs : List By} (h : Wid N W g n c bs) (hb : Below W.heap.size W W2) : Wid N W2 g n c bs := ⟨h.own.keep hb, h.len, h.big⟩
theorem Wid.row {N : Nat} {W : World} {g n c : Nat} {bs : List By} (h : Wid N W g n c bs) : RowIn W (some ⟨g, 0, none⟩) c bs := by
  have h1 := own_cap h.own
  have h2 := h.len
  refine ⟨by have := h.big; omega, by omega, fun e => (by cases e), ?_⟩
  have := isB_take (own_IsB h.own) n
  rwa [List.take_left' h.len] at this
theorem Wid.lies {N : Nat} {W : World} {g n c : Nat} {bs : List By} (h : Wid N W g n c bs) : N ≤ g ∧ g < W.heap.size := (h.own.lies g 0 rfl).2

set_option maxHeartbeats 1000000 in
theorem wide25_any (ao : Option Addr) (cap : Nat) (bs : List By) (w : World) (h : RowIn w ao cap bs) :
    Calls Tryd.prog 4 #[.slice ao bs.length cap] w fun e w' => ∃ g c, e = .returned (.slice (some ⟨g, 0, none⟩) bs.length c) ∧ Wid w.heap.size w' g bs.length c bs ∧ Below w.heap.size w w' := by
  have HBIG : Hid (bs.length ≤ 140737488351232) := h.len
  have hl := h.len
  obtain ⟨n, hn⟩ : ∃ n, bs.length = n := ⟨_, rfl⟩
  have HN : Hid (bs.length = n) := hn
  rw [hn] at hl ⊢
  have HNI : Hid (ao = none → cap = 0) := h.nil
  have IB : Hid (∀ W, Below w.heap.size w W → IsB W ao bs) := fun W k => h.isb.below k (Nat.le_refl _)
  have z1 : IntKind.i64.wrap ((n : Int) + 3) = (n : Int) + 3 := i64_in _ (by omega) (by omega)
  clear h hn
  go_enter Tryd.func4, Tryd.ntmps4
  go_wp2_with (first | (refine wpList_make_room rfl _ _ rfl (n + 3) _ rfl rfl (by omega) (by omega) ?_; intro w1 ho1 hb1) | (at_builtin; refine wpList_append_more rfl (.tmp 7) (.tmp 8) rfl w.heap.size w _ 0 (n + 3) [] rfl rfl ho1 hb1 ao n cap bs rfl HN.out (IB.out _ hb1) HNI.out (by omega) ?_; intro ao2 c2 w2 ho2 hb2; rw [Nat.zero_add] at ho2; have om := ho2.keep ((Below.refl w2.heap.size w2).alloc (Nat.le_refl _) (.cells #[.int .u8 161, .int .u8 162, .int .u8 163] 5)); have bm : Below w.heap.size w (w2.alloc (.cells #[.int .u8 161, .int .u8 162, .int .u8 163] 5)) := hb2.alloc hb2.size _; have im : IsB (w2.alloc (.cells #[.int .u8 161, .int .u8 162, .int .u8 163] 5)) (some ⟨w2.heap.size, 0, none⟩) mk3w := row_isb (Row.at w2 5 (mk3w.map B8) _ _ rfl rfl)) | (at_builtin; refine wpList_append_more rfl (.tmp 10) (.tmp 11) rfl w.heap.size w ao2 n c2 ([] ++ bs) rfl (by simpa using HN.out) om bm _ 3 3 mk3w rfl rfl im (fun h => by cases h) (by omega) ?_; intro ao3 c3 w3 ho3 hb3; obtain ⟨g, rfl, _, _⟩ := ho3.at (by omega); have hc3 := own_cap ho3; have j1 : (n : Int) ≤ (c3 : Int) := by omega))
  go_ret
  exact ⟨g, c3, rfl, ⟨by simpa using ho3, HN.out, hl⟩, hb3⟩

set_option maxHeartbeats 1000000 in
theorem kept25_any (N g n c : Nat) (ao : Option Addr) (cap : Nat) (bs : List By) (w : World) (h : Wid N w g n c bs) (hb : IsB w ao bs) :
    Calls Tryd.prog 8 #[.slice (some ⟨g, 0, none⟩) n c, .slice ao n cap] w fun e w' => e = .returned (.bool true) ∧ w' = w := by
  have hn := h.len
  have hl := h.big
  have hc : n + 3 ≤ c := own_cap h.own
  have ho := own_IsB h.own
  have i1 : IsB w (some ⟨g, 0, none⟩) bs := h.row.isb
  have i2 : IsB w (some ⟨g, n, none⟩) mk3w := by
    rcases ho with h | ⟨B, off, e, h⟩
    · simp [mk3w] at h
    · injection e with e; injection e with e1 e2; subst e1 e2
      refine .inr ⟨g, n, rfl, fun j v hj => ?_⟩
      have := h (n + j) v (by rw [List.getElem?_append_right (by rw [hn]; omega), hn, Nat.add_sub_cancel_left]; exact hj)
      rw [Nat.zero_add] at this; exact this
  have cv1 := conv_bytes w (some ⟨g, 0, none⟩) n c bs hn i1
  have cv2 := conv_bytes w ao n cap bs hn hb
  have cv3 := conv_bytes w (some ⟨g, n, none⟩) 3 (c - n) mk3w rfl i2
  rw [mk3w_str] at cv3
  have z1 : IntKind.i64.wrap ((n : Int) + 3) = (n : Int) + 3 := i64_in _ (by omega) (by omega)
  have j1 : (0 : Int) ≤ (n : Int) + 3 := by omega
  have j2 : (n : Int) + 3 ≤ (c : Int) := by omega
  have j3 : (n : Int) ≤ (n : Int) + 3 := by omega
  have t1 : ((n : Int) + 3).toNat = n + 3 := by omega
  have t2 : n + 3 - n = 3 := by omega
  have hcn : ¬ c = n := by omega
  generalize strOf bs = S at *
  clear i1 i2 ho hb hn hl hc h
  go_enter Tryd.func8, Tryd.ntmps8
  go_wp2
  go_ret
  exact ⟨rfl, rfl⟩

/-- What a call answers: bytes in memory of their own, and something besides. -/
def CO (w : World) (m : List By) (e : Ending) (w' : World) : Prop := Below w.heap.size w w' ∧ ∃ ao c v, e = .returned (.tuple #[.slice ao m.length c, v]) ∧ Own w.heap.size w' (.slice ao m.length c) m
/-- The code's contracts, as PatchKeeps wants them: answers lie in memory of their own. -/
structure PchO (M A J : List By → List By → List By) : Prop where
  make : ∀ (w : World) (ao : Option Addr) (c : Nat) (a : List By) (bo : Option Addr) (d : Nat) (b : List By), RowIn w ao c a → RowIn w bo d b → Calls Tryd.prog 5 #[.slice ao a.length c, .slice bo b.length d] w (CO w (M a b))
  apply : ∀ (w : World) (ao : Option Addr) (c : Nat) (a : List By) (bo : Option Addr) (d : Nat) (b : List By), RowIn w ao c a → RowIn w bo d b → Calls Tryd.prog 6 #[.slice ao a.length c, .slice bo b.length d] w (CO w (A a b))
  join : ∀ (w : World) (ao : Option Addr) (c : Nat) (a : List By) (bo : Option Addr) (d : Nat) (b : List By), RowIn w ao c a → RowIn w bo d b → Calls Tryd.prog 7 #[.slice ao a.length c, .slice bo b.length d] w (CO w (J a b))
  lm : ∀ a b, (M a b).length ≤ 1000000000
  la : ∀ a b, (A a b).length ≤ 1000000000
  lj : ∀ a b, (J a b).length ≤ 1000000000
end Go.Proofs.YtdfbfheceobboaaDoor


/-! The code's patch: rows that are grown, parts in memory. -/
namespace Go.Proofs.YtdfbfheceobboaaDoor
open Go.RowKit
set_option linter.unusedVariables false
set_option linter.unusedSimpArgs false
set_option maxRecDepth 100000

/-- What growing a row of one's own leaves: it lies where it lay or in new memory, and no other block is written. -/
structure Grw (N : Nat) (ao ao' : Option Addr) (w w' : World) : Prop where
  bel : Below N w w'
  size : w.heap.size ≤ w'.heap.size
  oth : ∀ k, k < w.heap.size → (∀ g, ao = some ⟨g, 0, none⟩ → k ≠ g) → w'.heap[k]? = w.heap[k]?
  loc : ao' = ao ∨ ∃ g', ao' = some ⟨g', 0, none⟩ ∧ w.heap.size ≤ g'
theorem Grw.refl (N : Nat) (ao : Option Addr) (w : World) : Grw N ao ao w w := ⟨Below.refl _ _, Nat.le_refl _, fun _ _ _ => rfl, .inl rfl⟩
theorem Grw.trans {N : Nat} {a b c : Option Addr} {w w' w'' : World} (h : Grw N a b w w') (k : Grw N b c w' w'') : Grw N a c w w'' := by
  refine ⟨h.bel.trans k.bel, Nat.le_trans h.size k.size, fun i hi hne => ?_, ?_⟩
  · refine (k.oth i (Nat.lt_of_lt_of_le hi h.size) fun g hg e => ?_).trans (h.oth i hi hne)
    rcases h.loc with e1 | ⟨g', e1, h1⟩
    · exact hne g (by rw [← e1]; exact hg) e
    · rw [e1] at hg; injection hg with hg; injection hg with hg; omega
  · rcases k.loc with e1 | ⟨g', e1, h1⟩
    · rw [e1]; exact h.loc
    · exact .inr ⟨g', e1, Nat.le_trans h.size h1⟩
/-- New memory alone. -/
theorem Grw.of_below {N : Nat} {ao : Option Addr} {w w' : World} (h : Below w.heap.size w w') (hN : N ≤ w.heap.size) : Grw N ao ao w w' :=
  ⟨h.mono hN, h.size, fun k hk _ => h.block k hk, .inl rfl⟩
theorem Grw.alloc (N : Nat) (ao : Option Addr) (w : World) (o : Obj) (hN : N ≤ w.heap.size) : Grw N ao ao w (w.alloc o) := .of_below ((Below.refl _ _).alloc (Nat.le_refl _) _) hN
/-- From nothing: all that was there stands. -/
theorem Grw.fresh {N : Nat} {b : Option Addr} {w w' : World} (h : Grw N none b w w') : Below w.heap.size w w' :=
  ⟨h.bel.os, h.bel.tape, h.bel.output, h.size, fun k hk => h.oth k hk (fun g e => by cases e)⟩
theorem Grw.row {N : Nat} {a b : Option Addr} {w w' : World} (h : Grw N a b w w') {g t : Nat} {cs : List Value} (hr : Row w g t cs) (hne : a ≠ some ⟨g, 0, none⟩) : Row w' g t cs :=
  (h.oth g hr.lt (fun q e e2 => hne (by rw [e, e2]))).trans hr
theorem Grw.isb {N : Nat} {a b : Option Addr} {w w' : World} (h : Grw N a b w w') {po : Option Addr} {m : List By} (hp : IsB w po m) (hne : ∀ B off, m ≠ [] → po = some ⟨B, off, none⟩ → a ≠ some ⟨B, 0, none⟩) : IsB w' po m := by
  rcases hp with rfl | ⟨B, off, e, hc⟩
  · exact .inl rfl
  · by_cases hm : m = []
    · exact .inl hm
    · refine .inr ⟨B, off, e, fun j v hj => ?_⟩
      have h1 := hc j v hj
      have h2 := h.oth B (cell_lt25 h1) (fun q eq e2 => hne B off hm e (by rw [eq, e2]))
      exact (World.cell?_of_block (w := w) h2).trans h1
theorem Grw.own {N M : Nat} {a b : Option Addr} {w w' : World} (h : Grw N a b w w') {ao : Option Addr} {n c : Nat} {m : List By} (ho : Own M w (.slice ao n c) m) (hne : a = none ∨ ao = none ∨ ao ≠ a) : Own M w' (.slice ao n c) m := by
  have hl := (own_isb ho).1
  have h1 := ho.1
  rw [hl] at h1
  refine ⟨?_, Nat.le_trans ho.2 h.size⟩
  rw [hl]
  refine own_keepL h1 fun B e => ?_
  subst e
  refine h.oth B (h1.lt B rfl).2 fun g e e2 => ?_
  subst e2
  rcases hne with rfl | h1 | h1
  · cases e
  · cases h1
  · exact h1 e.symm
theorem el_cparts : ElT 39 54 1 16 .nilIface := ⟨Tryd.underlying39, by kernel_rfl, rfl, by omega⟩
/-- Bytes behind bytes of one's own. -/
theorem wpList_append_grw {ops : Array Oper} {rest : List Oper} {o : Oper} {a : Act} {w : World} {Q : Exit → Act → World → Prop} (hgd : o.guard = none) (s x : Operand)
    (ho : o.op = .call { callee := .builtin .append, args := #[s, x], argTypes := #[22, 22] })
    (N : Nat) (aoD : Option Addr) (nD capD : Nat) (m : List By) (hs : a.eval s = .slice aoD nD capD) (hown : Own N w (.slice aoD nD capD) m)
    (B off n cap : Nat) (b : List By) (hx : a.eval x = .slice (some ⟨B, off, none⟩) n cap) (hn : b.length = n) (hb : IsB w (some ⟨B, off, none⟩) b) (hn0 : 0 < n) (hl : nD + n < 140737488353280)
    (h : ∀ ao' cap' w', Own N w' (.slice ao' (nD + n) cap') (m ++ b) → Grw N aoD ao' w w' → wpList Tryd.prog ops Q rest (a.put o.dst (.slice ao' (nD + n) cap')) w') : wpList Tryd.prog ops Q (o :: rest) a w := by
  have hlen := hown.len
  have h1 := hown.1
  rw [hlen] at h1
  have hc : ∀ j u, (b.map B8)[j]? = some u → w.cell? ⟨B, off + j, none⟩ = some u := by
    rcases hb with rfl | ⟨B', off', e, hc⟩
    · simp
    · injection e with e; injection e with e1 e2; subst e1; subst e2
      intro j u hu
      rw [List.getElem?_map] at hu
      obtain ⟨q, hq, rfl⟩ := Option.map_eq_some_iff.1 hu
      exact hc j q hq
  refine wpList_append_where el_bytes hgd s x ho N w aoD nD capD (m.map B8) hs h1 hown.2 (Below.refl _ _) B off n cap (b.map B8) hx (by rw [List.length_map, hn, Nat.mul_one]) hc hn0 (B8_one _) (by unfold maxLen; omega) (by omega) ?_
  intro ao' cap' w' q1 q2 q3 q4 q5
  refine h ao' cap' w' ⟨?_, Nat.le_trans hown.2 q3⟩ ⟨q2, q3, q4, q5.imp id fun e => ⟨_, e, Nat.le_refl _⟩⟩
  rw [List.length_append, hlen, List.map_append, hn]
  exact q1
/-- One byte, out of a literal, behind bytes of one's own. -/
theorem wpList_append1_grw {ops : Array Oper} {rest : List Oper} {o : Oper} {a : Act} {w : World} {Q : Exit → Act → World → Prop} (hgd : o.guard = none) (s x : Operand)
    (ho : o.op = .call { callee := .builtin .append, args := #[s, x], argTypes := #[22, 22] })
    (N : Nat) (aoD : Option Addr) (nD capD : Nat) (m : List By) (hs : a.eval s = .slice aoD nD capD) (hown : Own N w (.slice aoD nD capD) m)
    (g0 : Nat) (hg0 : g0 = w.heap.size) (hx : a.eval x = .slice (some ⟨g0, 0, none⟩) 1 1) (y : By) (v : Int) (hv : v = (y.toNat : Int)) (hl : nD + 1 < 140737488353280)
    (h : ∀ ao' cap' w', Own N w' (.slice ao' (nD + 1) cap') (m ++ [y]) → Grw N aoD ao' w w' → wpList Tryd.prog ops Q rest (a.put o.dst (.slice ao' (nD + 1) cap')) w') : wpList Tryd.prog ops Q (o :: rest) a (w.alloc (.cells #[.int .u8 v] 5)) := by
  subst hg0; subst hv
  have hr : Row (w.alloc (.cells #[.int .u8 (y.toNat : Int)] 5)) w.heap.size 5 [B8 y] := Row.at w _ _ _ _ rfl rfl
  refine wpList_append_grw hgd s x ho N aoD nD capD m hs (hown.keep ((Below.refl _ _).alloc (Nat.le_refl _) _)) w.heap.size 0 1 1 [y] hx rfl (.inr ⟨_, _, rfl, fun j u hu => ?_⟩) (by omega) hl ?_
  · rw [Nat.zero_add]
    exact hr.cell j (B8 u) (by cases j with | zero => simp at hu; subst hu; rfl | succ j => simp at hu)
  · intro ao' cap' w' h1 h2
    exact h ao' cap' w' h1 ((Grw.alloc N aoD w _ hown.2).trans h2)
/-- One part behind parts of one's own. -/
theorem wpList_append_part {ops : Array Oper} {rest : List Oper} {o : Oper} {a : Act} {w : World} {Q : Exit → Act → World → Prop} (hgd : o.guard = none) (s x : Operand)
    (ho : o.op = .call { callee := .builtin .append, args := #[s, x], argTypes := #[39, 39] })
    (N : Nat) (hN : N ≤ w.heap.size) (aoD : Option Addr) (nD capD : Nat) (vs : List Value) (hs : a.eval s = .slice aoD nD capD) (hown : w.ownsRow N 54 1 (.slice aoD nD capD) nD vs)
    (g0 : Nat) (hg0 : g0 = w.heap.size) (hx : a.eval x = .slice (some ⟨g0, 0, none⟩) 1 1) (v : Value) (hv : v.oneCell' = true) (hl : nD ≤ 4000000)
    (h : ∀ ao' cap' w', w'.ownsRow N 54 1 (.slice ao' (nD + 1) cap') (nD + 1) (vs ++ [v]) → Grw N aoD ao' w w' → wpList Tryd.prog ops Q rest (a.put o.dst (.slice ao' (nD + 1) cap')) w') : wpList Tryd.prog ops Q (o :: rest) a (w.alloc (.cells #[v] 54)) := by
  subst hg0
  have hr : Row (w.alloc (.cells #[v] 54)) w.heap.size 54 [v] := Row.at w _ _ _ _ rfl rfl
  refine wpList_append_where el_cparts hgd s x ho N (w.alloc (.cells #[v] 54)) aoD nD capD vs hs (hown.alloc _) (by simp; omega) (Below.refl _ _) w.heap.size 0 1 1 [v] hx rfl (fun j u hu => by rw [Nat.zero_add]; exact hr.cell j u hu) (by omega) (by intro u hu; rw [List.mem_singleton] at hu; subst hu; exact hv) (by unfold maxLen; omega) (by omega) ?_
  intro ao' cap' w' q1 q2 q3 q4 q5
  exact h ao' cap' w' q1 ((Grw.alloc N aoD w _ hN).trans ⟨q2, q3, q4, q5.imp id fun e => ⟨_, e, Nat.le_refl _⟩⟩)
abbrev layV (bo : Option Addr) (n c : Nat) : Value := .iface 63 (.agg #[.slice bo n c])
abbrev spV (f n : Nat) : Value := .iface 66 (.agg #[.int .i64 (f : Int), .int .i64 (n : Int)])
/-- A part behind the interface: a copy, or a lay whose bytes can be read and lie in a block below N. -/
structure PaV (N : Nat) (W : World) (y : Pt) (v : Value) : Prop where
  eq : (y.lay = false ∧ v = spV y.frm y.n) ∨ (y.lay = true ∧ ∃ B off c, v = layV (some ⟨B, off, none⟩) y.n c ∧ IsB W (some ⟨B, off, none⟩) y.b ∧ y.b.length = y.n ∧ y.n ≤ c ∧ B < N)
theorem IsB.keepN {W W' : World} {B off N : Nat} {m : List By} (h : IsB W (some ⟨B, off, none⟩) m) (hb : Below N W W') (hB : B < N) : IsB W' (some ⟨B, off, none⟩) m := by
  rcases h with h | ⟨B', off', e, hc⟩
  · exact .inl h
  · injection e with e; injection e with e1 e2; subst e1; subst e2
    exact .inr ⟨_, _, rfl, fun j v hj => (World.cell?_of_block (w := W) (hb.block B hB)).trans (hc j v hj)⟩
theorem PaV.keep {N : Nat} {W W' : World} {y : Pt} {v : Value} (h : PaV N W y v) (hb : Below N W W') : PaV N W' y v := by
  rcases h.eq with ⟨h1, h2⟩ | ⟨h1, B, off, c, h2, h3, h4, h5, h6⟩
  · exact ⟨.inl ⟨h1, h2⟩⟩
  · exact ⟨.inr ⟨h1, B, off, c, h2, h3.keepN hb h6, h4, h5, h6⟩⟩
/-- A row of parts in memory from N on. -/
structure PaR (N : Nat) (W : World) (l : List Pt) (lo : Option Addr) (lc : Nat) : Prop where
  sz : N ≤ W.heap.size
  vs : ∃ vs : List Value, vs.length = l.length ∧ W.ownsRow N 54 1 (.slice lo l.length lc) l.length vs ∧ ∀ (i : Nat) (y : Pt) (v : Value), l[i]? = some y → vs[i]? = some v → PaV N W y v
theorem PaR.keep {N : Nat} {W W' : World} {l : List Pt} {lo : Option Addr} {lc : Nat} (h : PaR N W l lo lc) (hb : Below W.heap.size W W') : PaR N W' l lo lc := by
  obtain ⟨vs, h1, h2, h3⟩ := h.vs
  exact ⟨Nat.le_trans h.sz hb.size, vs, h1, own_keepL h2 fun B e => hb.block B (by subst e; exact (h2.lt B rfl).2), fun i y v hi hv => (h3 i y v hi hv).keep (hb.mono h.sz)⟩
/-- Under what keeps all below N and the row itself. -/
theorem PaR.grw {N : Nat} {W W' : World} {l : List Pt} {lo : Option Addr} {lc : Nat} (h : PaR N W l lo lc) {a b : Option Addr} (hg : Grw N a b W W') (hne : ∀ g, lo = some ⟨g, 0, none⟩ → a ≠ some ⟨g, 0, none⟩) : PaR N W' l lo lc := by
  obtain ⟨vs, h1, h2, h3⟩ := h.vs
  exact ⟨Nat.le_trans h.sz hg.size, vs, h1, own_keepL h2 fun B e => hg.oth B (by subst e; exact (h2.lt B rfl).2) (fun q e1 e2 => hne B e (by rw [e1, e2])), fun i y v hi hv => (h3 i y v hi hv).keep hg.bel⟩
theorem PaR.nil (N : Nat) (W : World) (hN : N ≤ W.heap.size) : PaR N W [] none 0 := ⟨hN, [], rfl, World.ownsRow_nil _ _ _ _, fun i y v h => by simp at h⟩
theorem PaR.at {N : Nat} {W : World} {l : List Pt} {lo : Option Addr} {lc : Nat} (h : PaR N W l lo lc) {i : Nat} {y : Pt} (hi : l[i]? = some y) : ∃ B v, lo = some ⟨B, 0, none⟩ ∧ W.cell? ⟨B, i, none⟩ = some v ∧ PaV N W y v := by
  obtain ⟨vs, h1, h2, h3⟩ := h.vs
  have hil := (List.getElem?_eq_some_iff.1 hi).1
  have hv : vs[i]? = some vs[i] := List.getElem?_eq_getElem (by omega)
  rcases h2.2 with ⟨e1, e2⟩ | ⟨g, c', cur, e1, _⟩
  · omega
  · injection e1 with e1
    subst e1
    have := h2.cells (g := g) rfl i _ hv
    rw [Addr.add_mid, Nat.zero_add] at this
    exact ⟨g, _, rfl, this, h3 i y _ hi hv⟩
/-- A part more. -/
theorem PaR.snoc {N : Nat} {W W' : World} {l : List Pt} {y : Pt} {v : Value} {vs : List Value} (hN : N ≤ W'.heap.size) (h1 : vs.length = l.length) (h3 : ∀ (i : Nat) (y : Pt) (v : Value), l[i]? = some y → vs[i]? = some v → PaV N W' y v) {lo' : Option Addr} {lc' : Nat} (ho : W'.ownsRow N 54 1 (.slice lo' (l.length + 1) lc') (l.length + 1) (vs ++ [v])) (hv : PaV N W' y v) : PaR N W' (l ++ [y]) lo' lc' := by
  refine ⟨hN, vs ++ [v], by simp [h1], by rw [List.length_append]; exact ho, fun i z u hz hu => ?_⟩
  by_cases hi : i < l.length
  · rw [List.getElem?_append_left hi] at hz
    rw [List.getElem?_append_left (by omega)] at hu
    exact h3 i z u hz hu
  · have hi2 := (List.getElem?_eq_some_iff.1 hz).1
    simp at hi2
    have e : i = l.length := by omega
    rw [e, List.getElem?_append_right (Nat.le_refl _)] at hz
    rw [e, List.getElem?_append_right (by omega)] at hu
    simp at hz
    simp [h1] at hu
    subst hz; subst hu; exact hv
end Go.Proofs.YtdfbfheceobboaaDoor
