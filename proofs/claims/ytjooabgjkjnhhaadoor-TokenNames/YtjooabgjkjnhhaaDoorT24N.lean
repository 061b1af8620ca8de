
import Derived.Test.YtjooabgjkjnhhaaDoorT24M
import Derived.Test.YtjooabgjkjnhhaaDoorI11Inv
import Derived.ArgAppend
import Derived.Laws.MakeOwn
/-! The law's token: of: what it stands on. -/
namespace Go.Proofs.YtjooabgjkjnhhaaDoor
open Go.RowKit
set_option linter.unusedVariables false
set_option linter.unusedSimpArgs false
set_option maxRecDepth 100000

theorem ff24 {a b : Bool} (h : a = true → b = true) (hb : b = false) : a = false := by
  cases a with
  | false => rfl
  | true => rw [h rfl] at hb; cases hb
/-- A slice without elements, with room, at a step of a drawn region. -/
theorem step_make_room {ops : Array Oper} {o : Oper} {a : Act} {w : World} {K : Act → World → Prop} {Q : Exit → Act → World → Prop} {X : Prop} (hg : o.guard = none) (l c : Operand) (hop : o.op = Op.makeSlice 23 l c)
    (m : Nat) (C : Int) (hl : a.eval l = .int .i64 0) (hc : a.eval c = .int .i64 C) (hC : C = (m : Int)) (hm : m ≤ 140737488355328)
    (h : ∀ w', Own w.heap.size w' (.slice (some ⟨w.heap.size, 0, none⟩) 0 m) [] → Below w.heap.size w w' → K (a.put o.dst (.slice (some ⟨w.heap.size, 0, none⟩) 0 m)) w') :
    if Region.wanted o (yielded ops a.tmps) = true then Oper.wp Tryd.prog o a w K Q else X := by
  have hw : Region.wanted o (yielded ops a.tmps) = true := by simp [Region.wanted, hg]
  rw [if_pos hw]
  obtain ⟨i0, hi, hz0, hz1, hz2⟩ := info_parts Tryd.info5
  subst hC
  have hrun := run_make (P := Tryd.prog) w 23 5 i0 (.int .u8 0) Tryd.underlying23 hi hz0 .i64 .i64 (0 : Int) (m : Int) (by omega) (by omega) (by rw [hz2]; omega) (by omega)
  unfold Oper.wp
  simp [execOp, hop, hl, hc, hrun, Result.andThen]
  refine h _ ?_ ?_
  · refine ⟨⟨by simp, .inr ⟨w.heap.size, m, _, rfl, Nat.le_refl _, heap_alloc_new w _, by simp, by unfold maxLen; omega, ?_, by simp⟩⟩, by simp⟩
    rw [hz1, Nat.mul_one]
    have : (madeCells #[Value.int .u8 0] m).toList = (List.replicate m (0 : By)).map B8 := by
      rw [toList_madeCells_one]; simp [B8]
    have h2 : (madeCells #[Value.int .u8 0] m).size = m := by
      rw [← Array.length_toList, this]; simp
    simpa [Value.cells] using h2
  · exact (Below.refl _ _).alloc (Nat.le_refl _) _

/-- While bytes are copied: made (4), appended (7), assigned (8). -/
structure BX (W1 : World) (bs : List By) (l4 l7 l8 : Bool) (x4 x7 x8 : Value) (W : World) : Prop where
  c8 : l8 = true → l7 = true
  c7 : l7 = true → l4 = true
  bel : Below W1.heap.size W1 W
  p4 : l4 = true → l7 = false → ∃ ao c, x4 = .slice ao 0 c ∧ Own W1.heap.size W (.slice ao 0 c) []
  p7 : l7 = true → ∃ ao c, x7 = .slice ao bs.length c ∧ Own W1.heap.size W (.slice ao bs.length c) bs
  p8 : l8 = true → x8 = x7
section
variable {W1 : World} {bs : List By} {l4 l7 l8 : Bool} {x4 x7 x8 : Value} {W W2 : World}
theorem BX.zero (W1 : World) (bs : List By) (x4 x7 x8 : Value) : BX W1 bs false false false x4 x7 x8 W1.drew :=
  ⟨fun h => (by cases h), fun h => (by cases h), (Below.refl _ _).drew, fun h => (by cases h), fun h => (by cases h), fun h => (by cases h)⟩
theorem BX.s4 (h : BX W1 bs l4 l7 l8 x4 x7 x8 W) (h4 : l4 = false) {ao : Option Addr} {m : Nat} (ho : Own W.heap.size W2 (.slice ao 0 m) []) (hb : Below W.heap.size W W2) : BX W1 bs true l7 l8 (.slice ao 0 m) x7 x8 W2 := by
  have h7 := ff24 h.c7 h4
  have h8 := ff24 h.c8 h7
  subst h7 h8
  exact ⟨fun h => (by cases h), fun h => (by cases h), h.bel.trans (hb.mono h.bel.size), fun _ _ => ⟨ao, m, rfl, own_le ho h.bel.size⟩, fun h => (by cases h), fun h => (by cases h)⟩
theorem BX.s7 (h : BX W1 bs l4 l7 l8 x4 x7 x8 W) (h4 : l4 = true) (h7 : l7 = false) {ao : Option Addr} {c : Nat} (ho : Own W1.heap.size W2 (.slice ao bs.length c) bs) (hb : Below W1.heap.size W1 W2) : BX W1 bs l4 true l8 x4 (.slice ao bs.length c) x8 W2 := by
  have h8 := ff24 h.c8 h7
  subst h4 h8
  exact ⟨fun h => (by cases h), fun _ => rfl, hb, fun _ h => (by cases h), fun _ => ⟨ao, c, rfl, ho⟩, fun h => (by cases h)⟩
theorem BX.s8 (h : BX W1 bs l4 l7 l8 x4 x7 x8 W) (h7 : l7 = true) : BX W1 bs l4 l7 true x4 x7 x7 W :=
  ⟨fun _ => h7, h.c7, h.bel, h.p4, h.p7, fun _ => rfl⟩
end


/-- append at a step of a drawn region, and what it leaves of other blocks. -/
theorem step_append_gen {T e size bytes : Nat} {z : Value} (E : ElT T e size bytes z) {ops : Array Oper} {o : Oper} {a : Act} {w : World} {K : Act → World → Prop} {Q : Exit → Act → World → Prop} {X : Prop} (hw : Region.wanted o (yielded ops a.tmps) = true) (s x : Operand)
    (ho : o.op = .call { callee := .builtin .append, args := #[s, x], argTypes := #[T, T] })
    (N : Nat) (a0 : World) (aoD : Option Addr) (nD capD : Nat) (vs : List Value) (hs : a.eval s = .slice aoD nD capD) (hown : w.ownsRow N e size (.slice aoD nD capD) nD vs) (hN : N ≤ w.heap.size) (hbel : Below N a0 w)
    (B off n cap : Nat) (news : List Value) (hx : a.eval x = .slice (some ⟨B, off, none⟩) n cap) (hn : news.length = n * size) (hc : ∀ j u, news[j]? = some u → w.cell? ⟨B, off + j, none⟩ = some u) (h1 : ∀ u ∈ news, u.oneCell' = true) (hm : nD + n ≤ maxLen) (hl : (nD + n) * bytes ≤ 140737488355328)
    (h : ∀ ao' cap' w', w'.ownsRow N e size (.slice ao' (nD + n) cap') (nD + n) (vs ++ news) → Below N a0 w' → w.heap.size ≤ w'.heap.size → (∀ k, k < w.heap.size → (∀ g, aoD = some ⟨g, 0, none⟩ → k ≠ g) → w'.heap[k]? = w.heap[k]?) → K (a.put o.dst (.slice ao' (nD + n) cap')) w') : if Region.wanted o (yielded ops a.tmps) = true then Oper.wp Tryd.prog o a w K Q else X := by
  rw [if_pos hw]
  obtain ⟨ao', cap', w', hrun, h2, h3, h4, h5⟩ := run_append_gen E N a0 w o.type aoD nD capD vs hown hN hbel (some ⟨B, off, none⟩) n cap news hn (.inr ⟨B, off, rfl, hc⟩) h1 (by simp) hm hl
  unfold Oper.wp execOp
  simp only [ho, resolve, invoke, builtin, Sem.run_bind, Sem.run_pure, Result.andThen_ok, List.map_toArray, List.map_cons, List.map_nil, hs, hx, hrun]
  exact h ao' cap' w' h2 h3 h4 h5
theorem el_tocavs : ElT 34 64 5 40 (.agg zCv.toArray) := ⟨Tryd.underlying34, by kernel_rfl, rfl, by omega⟩
/-- n caveats of nothing. -/
def zCvs (n : Nat) : List Value := (List.replicate n zCv).flatten
theorem zCvs_len (n : Nat) : (zCvs n).length = n * 5 := by
  unfold zCvs
  induction n with
  | zero => rfl
  | succ n ih => rw [List.replicate_succ, List.flatten_cons, List.length_append, ih]; simp [zCv]; omega
theorem zCvs_succ (n : Nat) : zCvs (n + 1) = zCv ++ zCvs n := by unfold zCvs; rw [List.replicate_succ, List.flatten_cons]
theorem made_cvs (m : Nat) : (madeCells zCv.toArray (m * 5)).toList = zCvs m := by
  apply List.ext_getElem?
  intro j
  unfold madeCells
  rw [Array.toList_map, List.getElem?_map, Array.toList_range]
  by_cases hj : j < m * 5
  · rw [List.getElem?_range hj]
    have h5 : j = j / 5 * 5 + j % 5 := by omega
    have hlt : j % 5 < 5 := Nat.mod_lt _ (by omega)
    have hq : j / 5 < m := by omega
    have : (zCvs m)[j]? = zCv[j % 5]? := by
      rw [h5]
      generalize j / 5 = q at *
      generalize j % 5 = r at *
      clear h5 hj
      induction q generalizing m with
      | zero =>
        obtain ⟨m', rfl⟩ : ∃ m', m = m' + 1 := ⟨m - 1, by omega⟩
        rw [zCvs_succ, Nat.zero_mul, Nat.zero_add, List.getElem?_append_left (by simp [zCv]; omega), Nat.mod_eq_of_lt hlt]
      | succ q ih =>
        obtain ⟨m', rfl⟩ : ∃ m', m = m' + 1 := ⟨m - 1, by omega⟩
        rw [zCvs_succ, List.getElem?_append_right (by simp [zCv]; omega)]
        have e : (q + 1) * 5 + r - zCv.length = q * 5 + r := by simp [zCv]; omega
        have e2 : ((q + 1) * 5 + r) % 5 = (q * 5 + r) % 5 := by omega
        rw [e, e2]
        exact ih m' (by omega)
    rw [this]
    show some (zCv.toArray[j % 5]!) = _
    generalize j % 5 = r at *
    match r, hlt with
    | 0, _ => rfl
    | 1, _ => rfl
    | 2, _ => rfl
    | 3, _ => rfl
    | 4, _ => rfl
  · rw [List.getElem?_eq_none (by simp; omega), List.getElem?_eq_none (by rw [zCvs_len]; omega)]
    rfl
/-- make of caveats, with room. -/
theorem wpList_make_cvs {ops : Array Oper} {rest : List Oper} {o : Oper} {a : Act} {w : World} {Q : Exit → Act → World → Prop} (hg : o.guard = none) (l c : Operand) (hop : o.op = Op.makeSlice 34 l c)
    (m : Nat) (C : Int) (hl : a.eval l = .int .i64 0) (hc : a.eval c = .int .i64 C) (hC : C = (m : Int)) (hm : m ≤ 1000000)
    (hK : ∀ w', Row w' w.heap.size 64 (zCvs m) → Below w.heap.size w w' → w'.heap.size = w.heap.size + 1 → wpList Tryd.prog ops Q rest (a.put o.dst (.slice (some ⟨w.heap.size, 0, none⟩) 0 m)) w') :
    wpList Tryd.prog ops Q (o :: rest) a w := by
  obtain ⟨i0, hi, hz0, hz1, hz2⟩ := info_parts el_tocavs.info
  refine wpList_plain hg fun K hK' => ?_
  subst hC
  have hrun := run_make (P := Tryd.prog) w 34 64 i0 (.agg zCv.toArray) Tryd.underlying34 hi hz0 .i64 .i64 (0 : Int) (m : Int) (by omega) (by omega) (by rw [hz2]; omega) (by omega)
  rw [hz1] at hrun
  unfold Oper.wp
  simp [execOp, hop, hl, hc, hrun, Result.andThen]
  refine hK' _ _ (hK _ ?_ ((Below.refl _ _).alloc (Nat.le_refl _) _) (by simp))
  refine Row.at w _ _ _ _ rfl ?_
  have := made_cvs m
  apply Array.toList_inj.1
  simpa [Value.cells] using this
/-- One caveat more, within the room. -/
theorem wpList_append_cv {ops : Array Oper} {rest : List Oper} {o : Oper} {a : Act} {w : World} {Q : Exit → Act → World → Prop} (hgd : o.guard = none) (s x : Operand)
    (ho : o.op = .call { callee := .builtin .append, args := #[s, x], argTypes := #[34, 34] })
    (O k cap : Nat) (C : List Value) (hs : a.eval s = .slice (some ⟨O, 0, none⟩) k cap) (hr : Row w O 64 C) (hC : (k + 1) * 5 ≤ C.length) (hroom : k + 1 ≤ cap)
    (M : Nat) (vs : List Value) (hx : a.eval x = .slice (some ⟨M, 0, none⟩) 1 1) (hM : Row w M 64 vs) (hv5 : vs.length = 5) (h1 : ∀ u ∈ vs, u.oneCell' = true)
    (h : ∀ w', Row w' O 64 (C.take (k * 5) ++ vs ++ C.drop (k * 5 + 5)) → SameBut O w w' → wpList Tryd.prog ops Q rest (a.put o.dst (.slice (some ⟨O, 0, none⟩) (k + 1) cap)) w') : wpList Tryd.prog ops Q (o :: rest) a w := by
  obtain ⟨i0, hi, hz0, hz1, hz2⟩ := info_parts el_tocavs.info
  refine wpList_plain hgd fun K hK => ?_
  have hrun := run_append_room_cells (P := Tryd.prog) w 34 o.type 64 i0 Tryd.underlying34 hi O 0 k cap ⟨M, 0, none⟩ 1 1 vs (by rw [hz1, hv5]) (fun j u hu => by rw [Addr.add_mid, Nat.zero_add]; exact hM.cell j u hu) h1 hroom
    (fun j hj => by
      rw [hz1, Nat.zero_add]
      have hj2 : j < 5 := by rw [hv5] at hj; exact hj
      have hlt : k * 5 + j < C.length := by omega
      rw [hr.cell (k * 5 + j) _ (List.getElem?_eq_getElem hlt)]; rfl)
    (fun j hj => by rw [hz1, Nat.zero_add]; exact hr.frozen _)
  rw [hz1, Nat.zero_add] at hrun
  unfold Oper.wp execOp
  simp only [ho, resolve, invoke, builtin, Sem.run_bind, Sem.run_pure, Result.andThen_ok, List.map_toArray, List.map_cons, List.map_nil, hs, hx, hrun]
  refine hK _ _ (h _ ?_ (SameBut.setCells O vs (k * 5) w))
  have := Row.setCells vs (k * 5) w C hr (by rw [hv5]; omega)
  rw [hv5] at this
  exact this
end Go.Proofs.YtjooabgjkjnhhaaDoor
