import Derived.Test.YtljjfhllpbcpeaaR5Mem2
/-! append onto an own slice of bytes, and where its answer lies. -/
namespace Go.Proofs.Ytljjfhllpbcpeaa
open Go.RowKit

def IsL (w : World) (ao : Option Addr) (vs : List Value) : Prop := vs = [] ∨ ∃ B off, ao = some ⟨B, off, none⟩ ∧ ∀ j v, vs[j]? = some v → w.cell? ⟨B, off + j, none⟩ = some v
/-- What is known of a slice type and its elements. -/
structure ElT (T e size bytes : Nat) (z : Value) : Prop where
  und : Try.prog.underlying T = some (.slice e)
  info : (Try.prog.info? e).map (fun i => (i.zero, i.size, i.bytes)) = some (some z, size, bytes)
  zs : z.cells.size = size
  pos : 0 < size

theorem run_append_gen {T e size bytes : Nat} {z : Value} (E : ElT T e size bytes z) (N : Nat) (a0 w : World) (ty : TypeId) (aoD : Option Addr) (nD capD : Nat) (vs : List Value) (hown : w.ownsRow N e size (.slice aoD nD capD) nD vs) (hN : N ≤ w.heap.size) (hbel : Below N a0 w)
    (ao : Option Addr) (n cap : Nat) (news : List Value) (hn : news.length = n * size) (hb : IsL w ao news) (h1 : ∀ u ∈ news, u.oneCell' = true) (hnil : ao = none → cap = 0) (hm : nD + n ≤ maxLen) (hl : (nD + n) * bytes ≤ 140737488355328) :
    ∃ ao' cap' w', (Builtin.append_ #[T, T] ty #[.slice aoD nD capD, .slice ao n cap]).run Try.prog w = .ok (.slice ao' (nD + n) cap') w' ∧ w'.ownsRow N e size (.slice ao' (nD + n) cap') (nD + n) (vs ++ news) ∧ Below N a0 w' ∧ w.heap.size ≤ w'.heap.size ∧ (∀ k, k < w.heap.size → (∀ g, aoD = some ⟨g, 0, none⟩ → k ≠ g) → w'.heap[k]? = w.heap[k]?) := by
  obtain ⟨i0, hi, hz0, hz1, hz2⟩ := info_parts E.info
  have some_case : ∀ ad : Addr, (∀ j u, news[j]? = some u → w.cell? (ad.add j) = some u) → ∃ ao' cap' w', (Builtin.append_ #[T, T] ty #[.slice aoD nD capD, .slice (some ad) n cap]).run Try.prog w = .ok (.slice ao' (nD + n) cap') w' ∧ w'.ownsRow N e size (.slice ao' (nD + n) cap') (nD + n) (vs ++ news) ∧ Below N a0 w' ∧ w.heap.size ≤ w'.heap.size ∧ (∀ k, k < w.heap.size → (∀ g, aoD = some ⟨g, 0, none⟩ → k ≠ g) → w'.heap[k]? = w.heap[k]?) := by
    intro ad hnews
    obtain ⟨v', w', r1, r2, r3, _⟩ := run_append_own (P := Try.prog) w N T ty e i0 z size bytes E.und hi hz0 hz1 hz2 E.zs E.pos _ nD vs hown ad n cap news hn hnews h1 hm hl hN
    have hform : ∃ ao' cap', v' = .slice ao' (nD + n) cap' := by
      rcases r2.2 with ⟨e1, e0⟩ | ⟨g, c, cur, e1, _⟩
      · exact ⟨none, 0, by rw [e1, e0]⟩
      · exact ⟨_, _, e1⟩
    obtain ⟨ao', cap', rfl⟩ := hform
    refine ⟨ao', cap', w', r1, r2, hbel.grown r3 hN (fun k hk => (hown.lt k hk).1), r3.size, fun k hk hne => r3.block k hk (fun e1 => ?_)⟩
    rcases hown.2 with ⟨e2, _⟩ | ⟨g, c, cur, e2, _⟩
    · rw [e2] at e1; simp [Value.ownBlock] at e1
    · injection e2 with e2
      rw [e2] at e1
      simp [Value.ownBlock] at e1
      exact hne g e2 e1
  rcases hb with rfl | ⟨B, off, rfl, hc⟩
  · have hn0 : n = 0 := by
      have hp := E.pos
      have h0 : n * size = 0 := by simpa using hn.symm
      rcases Nat.mul_eq_zero.1 h0 with h | h
      · exact h
      · omega
    cases ao with
    | none =>
      rw [hnil rfl, hn0]
      refine ⟨aoD, capD, w, ?_, by simpa using hown, hbel, Nat.le_refl _, fun _ _ _ => rfl⟩
      have := run_append_owned_none (P := Try.prog) (w := w) N T ty e i0 size E.und hi _ nD vs hown
      simpa using this
    | some ad => exact some_case ad (by simp)
  · refine some_case _ ?_
    intro j u hu
    rw [Addr.add_mid]
    exact hc j u hu

/-- Where what append answers lies: in the row that it was, or in a new block. -/
theorem append_where {T e size bytes : Nat} {z : Value} (E : ElT T e size bytes z) (N : Nat) (w : World) (ty : TypeId) (aoD : Option Addr) (nD capD : Nat) (vs : List Value) (hown : w.ownsRow N e size (.slice aoD nD capD) nD vs)
    (ad : Addr) (n cap : Nat) (news : List Value) (hn : news.length = n * size) (hnews : ∀ j u, news[j]? = some u → w.cell? (ad.add j) = some u) (h1 : ∀ u ∈ news, u.oneCell' = true) (hn0 : 0 < n) (hm : nD + n ≤ maxLen) (hl : (nD + n) * bytes ≤ 140737488355328)
    (ao' : Option Addr) (m cap' : Nat) (w' : World) (hrun : (Builtin.append_ #[T, T] ty #[.slice aoD nD capD, .slice (some ad) n cap]).run Try.prog w = .ok (.slice ao' m cap') w') : (ao' = aoD ∧ w'.heap.size = w.heap.size) ∨ (ao' = some ⟨w.heap.size, 0, none⟩ ∧ Below w.heap.size w w' ∧ w.heap.size < w'.heap.size) := by
  obtain ⟨i0, hi, hz0, hz1, hz2⟩ := info_parts E.info
  subst hz1 hz2
  have hnew : ∀ o : Obj, Below w.heap.size w (w.drew.alloc o) ∧ w.heap.size < (w.drew.alloc o).heap.size := fun o => ⟨((Below.refl _ _).drew).alloc (Nat.le_refl _) _, by simp⟩
  rcases hown.2 with ⟨e1, e2⟩ | ⟨g, c, cur, e1, hbg, hg, hnc, hcm, hcs, htake⟩
  · injection e1 with e3 e4 e5
    subst e3 e2 e5
    have hr := run_append_nil (P := Try.prog) w T ty e i0 z E.und hi hz0 ad n cap news hn hnews (by omega) (by unfold maxLen at hm; omega) (by have hb := hl; simp only [Nat.zero_add] at hb; omega)
    rw [hrun] at hr
    injection hr with e6 e7
    injection e6 with e8
    refine .inr ⟨e8, ?_⟩
    rw [e7]; exact hnew _
  · injection e1 with e3 e4 e5
    subst e3 e5
    by_cases hroom : nD + n ≤ capD
    · have hfit : nD * i0.size + news.length ≤ cur.size := by rw [hn, hcs, ← Nat.add_mul]; exact Nat.mul_le_mul_right _ hroom
      have hr := run_append_room (P := Try.prog) w T ty e i0 E.und hi g nD capD cur hg ad n cap news hn hnews h1 hroom hfit
      rw [hrun] at hr
      injection hr with e6 e7
      injection e6 with e8
      refine .inl ⟨e8, ?_⟩
      rw [e7]; simp
    · have holds : ∀ j u, vs[j]? = some u → w.cell? ((⟨g, 0, none⟩ : Addr).add j) = some u := hown.cells (g := g) rfl
      have hr := run_append_grow (P := Try.prog) w T ty e i0 z E.und hi hz0 ⟨g, 0, none⟩ nD capD vs hown.1 holds ad n cap news hn hnews (by omega) (by unfold maxLen at hm; omega) (growslice_fits (by omega) hl)
      rw [hrun] at hr
      injection hr with e6 e7
      injection e6 with e8
      refine .inr ⟨e8, ?_⟩
      rw [e7]; exact hnew _

theorem wpList_append_where {T e size bytes : Nat} {z : Value} (E : ElT T e size bytes z) {ops : Array Oper} {rest : List Oper} {o : Oper} {a : Act} {w : World} {Q : Exit → Act → World → Prop} (hgd : o.guard = none) (s x : Operand)
    (ho : o.op = .call { callee := .builtin .append, args := #[s, x], argTypes := #[T, T] })
    (N : Nat) (a0 : World) (aoD : Option Addr) (nD capD : Nat) (vs : List Value) (hs : a.eval s = .slice aoD nD capD) (hown : w.ownsRow N e size (.slice aoD nD capD) nD vs) (hN : N ≤ w.heap.size) (hbel : Below N a0 w)
    (B off n cap : Nat) (news : List Value) (hx : a.eval x = .slice (some ⟨B, off, none⟩) n cap) (hn : news.length = n * size) (hc : ∀ j u, news[j]? = some u → w.cell? ⟨B, off + j, none⟩ = some u) (hn0 : 0 < n) (h1 : ∀ u ∈ news, u.oneCell' = true) (hm : nD + n ≤ maxLen) (hl : (nD + n) * bytes ≤ 140737488355328)
    (h : ∀ ao' cap' w', w'.ownsRow N e size (.slice ao' (nD + n) cap') (nD + n) (vs ++ news) → Below N a0 w' → w.heap.size ≤ w'.heap.size → (∀ k, k < w.heap.size → (∀ g, aoD = some ⟨g, 0, none⟩ → k ≠ g) → w'.heap[k]? = w.heap[k]?) → (ao' = aoD ∨ ao' = some ⟨w.heap.size, 0, none⟩) → wpList Try.prog ops Q rest (a.put o.dst (.slice ao' (nD + n) cap')) w') : wpList Try.prog ops Q (o :: rest) a w := by
  refine wpList_plain hgd fun K hK => ?_
  obtain ⟨ao', cap', w', hrun, h2, h3, h4, h5⟩ := run_append_gen E N a0 w o.type aoD nD capD vs hown hN hbel (some ⟨B, off, none⟩) n cap news hn (.inr ⟨B, off, rfl, hc⟩) h1 (by simp) hm hl
  have hwh := append_where E N w o.type aoD nD capD vs hown ⟨B, off, none⟩ n cap news hn (fun j u hu => by rw [Addr.add_mid]; exact hc j u hu) h1 hn0 hm hl ao' _ cap' w' hrun
  unfold Oper.wp execOp
  simp only [ho, resolve, invoke, builtin, Sem.run_bind, Sem.run_pure, Result.andThen_ok, List.map_toArray, List.map_cons, List.map_nil, hs, hx, hrun]
  exact hK _ _ (h ao' cap' w' h2 h3 h4 h5 (hwh.imp (·.1) (·.1)))

theorem el_bytes : ElT 23 5 1 1 (.int .u8 0) := ⟨Try.underlying23, by kernel_rfl, rfl, by omega⟩

/-- One byte more: no other block that is there is written. -/
theorem wpList_append_byte {ops : Array Oper} {rest : List Oper} {o : Oper} {a : Act} {w : World} {Q : Exit → Act → World → Prop} (hgd : o.guard = none) (s x : Operand)
    (ho : o.op = .call { callee := .builtin .append, args := #[s, x], argTypes := #[23, 23] })
    (N : Nat) (aoD : Option Addr) (nD capD : Nat) (m : List By) (hs : a.eval s = .slice aoD nD capD) (hown : Own N w (.slice aoD nD capD) m)
    (B : Nat) (y : By) (hx : a.eval x = .slice (some ⟨B, 0, none⟩) 1 1) (hB : Row w B 5 [B8 y]) (hl : nD < 140737488353280)
    (h : ∀ ao' cap' w', Own N w' (.slice ao' (nD + 1) cap') (m ++ [y]) → w.heap.size ≤ w'.heap.size → Below N w w' → (∀ k, k < w.heap.size → aoD ≠ some ⟨k, 0, none⟩ → w'.heap[k]? = w.heap[k]?) → (ao' = aoD ∨ ao' = some ⟨w.heap.size, 0, none⟩) → wpList Try.prog ops Q rest (a.put o.dst (.slice ao' (nD + 1) cap')) w') : wpList Try.prog ops Q (o :: rest) a w := by
  have hlen := hown.len
  have h1 := hown.1
  rw [hlen] at h1
  refine wpList_append_where el_bytes hgd s x ho N w aoD nD capD (m.map B8) hs h1 hown.2 (Below.refl _ _) B 0 1 1 [B8 y] hx rfl (fun j u hu => by rw [Nat.zero_add]; exact hB.cell j u hu) (by omega) (by intro u hu; simp at hu; subst hu; rfl) (by unfold maxLen; omega) (by omega) ?_
  intro ao' cap' w' q1 q2 q3 q4 q5
  refine h ao' cap' w' ⟨?_, Nat.le_trans hown.2 q3⟩ q3 q2 (fun k hk hne => q4 k hk (fun g e e2 => hne (by rw [e, e2]))) q5
  rw [List.length_append, hlen, List.map_append]
  exact q1
end Go.Proofs.Ytljjfhllpbcpeaa
