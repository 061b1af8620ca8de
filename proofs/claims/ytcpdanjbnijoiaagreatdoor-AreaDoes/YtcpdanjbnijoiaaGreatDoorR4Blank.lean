import Derived.Test.YtcpdanjbnijoiaaGreatDoorR4SameW

/-! append(dst, src...) onto an own (or nil) slice of any element type. -/
namespace Go.Proofs.YtcpdanjbnijoiaaGreatDoor
open Go.RowKit

/-- What is known of a slice type and its elements. -/
structure ElT (T e size bytes : Nat) (z : Value) : Prop where
  und : Tryz.prog.underlying T = some (.slice e)
  info : (Tryz.prog.info? e).map (fun i => (i.zero, i.size, i.bytes)) = some (some z, size, bytes)
  zs : z.cells.size = size
  pos : 0 < size

theorem run_append_gen {T e size bytes : Nat} {z : Value} (E : ElT T e size bytes z) (N : Nat) (a0 w : World) (ty : TypeId) (aoD : Option Addr) (nD capD : Nat) (vs : List Value) (hown : w.ownsRow N e size (.slice aoD nD capD) nD vs) (hN : N ≤ w.heap.size) (hbel : Below N a0 w)
    (ao : Option Addr) (n cap : Nat) (news : List Value) (hn : news.length = n * size) (hb : IsL w ao news) (h1 : ∀ u ∈ news, u.oneCell' = true) (hnil : ao = none → cap = 0) (hm : nD + n ≤ maxLen) (hl : (nD + n) * bytes ≤ 140737488355328) :
    ∃ ao' cap' w', (Builtin.append_ #[T, T] ty #[.slice aoD nD capD, .slice ao n cap]).run Tryz.prog w = .ok (.slice ao' (nD + n) cap') w' ∧ w'.ownsRow N e size (.slice ao' (nD + n) cap') (nD + n) (vs ++ news) ∧ Below N a0 w' ∧ w.heap.size ≤ w'.heap.size ∧ (∀ k, k < w.heap.size → (∀ g, aoD = some ⟨g, 0, none⟩ → k ≠ g) → w'.heap[k]? = w.heap[k]?) := by
  obtain ⟨i0, hi, hz0, hz1, hz2⟩ := info_parts E.info
  have some_case : ∀ ad : Addr, (∀ j u, news[j]? = some u → w.cell? (ad.add j) = some u) → ∃ ao' cap' w', (Builtin.append_ #[T, T] ty #[.slice aoD nD capD, .slice (some ad) n cap]).run Tryz.prog w = .ok (.slice ao' (nD + n) cap') w' ∧ w'.ownsRow N e size (.slice ao' (nD + n) cap') (nD + n) (vs ++ news) ∧ Below N a0 w' ∧ w.heap.size ≤ w'.heap.size ∧ (∀ k, k < w.heap.size → (∀ g, aoD = some ⟨g, 0, none⟩ → k ≠ g) → w'.heap[k]? = w.heap[k]?) := by
    intro ad hnews
    obtain ⟨v', w', r1, r2, r3, _⟩ := run_append_own (P := Tryz.prog) w N T ty e i0 z size bytes E.und hi hz0 hz1 hz2 E.zs E.pos _ nD vs hown ad n cap news hn hnews h1 hm hl hN
    have hform : ∃ ao' cap', v' = .slice ao' (nD + n) cap' := by
      rcases r2.2 with ⟨e1, e0⟩ | ⟨g, c, cur, e1, _⟩
      · exact ⟨none, 0, by rw [e1, e0]⟩
      · exact ⟨_, _, e1⟩
    obtain ⟨ao', cap', rfl⟩ := hform
    refine ⟨ao', cap', w', r1, r2, hbel.grown r3 hN (fun k hk => (hown.lt k hk).1), r3.size, fun k hk hne => r3.block k hk (fun e1 => ?_)⟩
    rcases hown.2 with ⟨e2, _⟩ | ⟨g, c, cur, e2, _⟩
    · rw [e2] at e1; simp [Value.ownBlock] at e1
    · injection e2 with e2
      rw [e2] at e1
      simp [Value.ownBlock] at e1
      exact hne g e2 e1
  rcases hb with rfl | ⟨B, off, rfl, hc⟩
  · have hn0 : n = 0 := by
      have hp := E.pos
      have h0 : n * size = 0 := by simpa using hn.symm
      rcases Nat.mul_eq_zero.1 h0 with h | h
      · exact h
      · omega
    cases ao with
    | none =>
      rw [hnil rfl, hn0]
      refine ⟨aoD, capD, w, ?_, by simpa using hown, hbel, Nat.le_refl _, fun _ _ _ => rfl⟩
      have := run_append_owned_none (P := Tryz.prog) (w := w) N T ty e i0 size E.und hi _ nD vs hown
      simpa using this
    | some ad => exact some_case ad (by simp)
  · refine some_case _ ?_
    intro j u hu
    rw [Addr.add_mid]
    exact hc j u hu

theorem step_append_gen {T e size bytes : Nat} {z : Value} (E : ElT T e size bytes z) {ops : Array Oper} {o : Oper} {a : Act} {w : World} {K : Act → World → Prop} {Q : Exit → Act → World → Prop} {X : Prop} (hgd : o.guard = none) (s x : Operand)
    (ho : o.op = .call { callee := .builtin .append, args := #[s, x], argTypes := #[T, T] })
    (N : Nat) (a0 : World) (aoD : Option Addr) (nD capD : Nat) (vs : List Value) (hs : a.eval s = .slice aoD nD capD) (hown : w.ownsRow N e size (.slice aoD nD capD) nD vs) (hN : N ≤ w.heap.size) (hbel : Below N a0 w)
    (ao : Option Addr) (n cap : Nat) (news : List Value) (hx : a.eval x = .slice ao n cap) (hn : news.length = n * size) (hb : IsL w ao news) (h1 : ∀ u ∈ news, u.oneCell' = true) (hnil : ao = none → cap = 0) (hm : nD + n ≤ maxLen) (hl : (nD + n) * bytes ≤ 140737488355328)
    (h : ∀ ao' cap' w', w'.ownsRow N e size (.slice ao' (nD + n) cap') (nD + n) (vs ++ news) → Below N a0 w' → w.heap.size ≤ w'.heap.size → (∀ k, k < w.heap.size → (∀ g, aoD = some ⟨g, 0, none⟩ → k ≠ g) → w'.heap[k]? = w.heap[k]?) → K (a.put o.dst (.slice ao' (nD + n) cap')) w') :
    if Region.wanted o (yielded ops a.tmps) = true then Oper.wp Tryz.prog o a w K Q else X := by
  have hw : Region.wanted o (yielded ops a.tmps) = true := by simp [Region.wanted, hgd]
  rw [if_pos hw]
  obtain ⟨ao', cap', w', hrun, h2, h3, h4, h5⟩ := run_append_gen E N a0 w o.type aoD nD capD vs hown hN hbel ao n cap news hn hb h1 hnil hm hl
  unfold Oper.wp execOp
  simp only [ho, resolve, invoke, builtin, Sem.run_bind, Sem.run_pure, Result.andThen_ok, List.map_toArray, List.map_cons, List.map_nil, hs, hx, hrun]
  exact h ao' cap' w' h2 h3 h4 h5

theorem wpList_append_gen {T e size bytes : Nat} {z : Value} (E : ElT T e size bytes z) {ops : Array Oper} {rest : List Oper} {o : Oper} {a : Act} {w : World} {Q : Exit → Act → World → Prop} (hgd : o.guard = none) (s x : Operand)
    (ho : o.op = .call { callee := .builtin .append, args := #[s, x], argTypes := #[T, T] })
    (N : Nat) (a0 : World) (aoD : Option Addr) (nD capD : Nat) (vs : List Value) (hs : a.eval s = .slice aoD nD capD) (hown : w.ownsRow N e size (.slice aoD nD capD) nD vs) (hN : N ≤ w.heap.size) (hbel : Below N a0 w)
    (ao : Option Addr) (n cap : Nat) (news : List Value) (hx : a.eval x = .slice ao n cap) (hn : news.length = n * size) (hb : IsL w ao news) (h1 : ∀ u ∈ news, u.oneCell' = true) (hnil : ao = none → cap = 0) (hm : nD + n ≤ maxLen) (hl : (nD + n) * bytes ≤ 140737488355328)
    (h : ∀ ao' cap' w', w'.ownsRow N e size (.slice ao' (nD + n) cap') (nD + n) (vs ++ news) → Below N a0 w' → w.heap.size ≤ w'.heap.size → (∀ k, k < w.heap.size → (∀ g, aoD = some ⟨g, 0, none⟩ → k ≠ g) → w'.heap[k]? = w.heap[k]?) → wpList Tryz.prog ops Q rest (a.put o.dst (.slice ao' (nD + n) cap')) w') : wpList Tryz.prog ops Q (o :: rest) a w := by
  refine wpList_plain hgd fun K hK => ?_
  obtain ⟨ao', cap', w', hrun, h2, h3, h4, h5⟩ := run_append_gen E N a0 w o.type aoD nD capD vs hown hN hbel ao n cap news hn hb h1 hnil hm hl
  unfold Oper.wp execOp
  simp only [ho, resolve, invoke, builtin, Sem.run_bind, Sem.run_pure, Result.andThen_ok, List.map_toArray, List.map_cons, List.map_nil, hs, hx, hrun]
  exact hK _ _ (h ao' cap' w' h2 h3 h4 h5)

theorem el_ints : ElT 25 3 1 8 (.int .i64 0) := ⟨Tryz.underlying25, by kernel_rfl, rfl, by omega⟩
theorem el_bools : ElT 26 4 1 1 (.bool false) := ⟨Tryz.underlying26, by kernel_rfl, rfl, by omega⟩
theorem el_cells : ElT 74 55 32 32 (.agg ((List.replicate 32 (0 : By)).map B8).toArray) := ⟨Tryz.underlying74, by kernel_rfl, rfl, by omega⟩
theorem el_pages : ElT 24 74 1 24 (.slice none 0 0) := ⟨Tryz.underlying24, by kernel_rfl, rfl, by omega⟩

/-- A slice without elements, made new. -/
theorem owns_empty (N : Nat) (w : World) (h : N ≤ w.heap.size) (e size : Nat) : (w.alloc (.cells #[] e)).ownsRow N e size (.slice (some ⟨w.heap.size, 0, none⟩) 0 0) 0 [] :=
  ⟨by simp, .inr ⟨w.heap.size, 0, #[], rfl, h, heap_alloc_new w _, by simp, by unfold maxLen; omega, by simp, by simp⟩⟩

/-- The reference's own state, as a view. -/
theorem RAt.view {w : World} {F : RF} {s : RS} (h : RAt w F s) : StV w ⟨some ⟨F.pB, 0, none⟩, F.pcap, some ⟨F.eB, 0, none⟩, F.ecap, some ⟨F.bB, 0, none⟩, F.bcap⟩ s.st := by
  refine ⟨⟨F.ps.map (fun q => (some ⟨q.1, 0, none⟩, q.2)), by rw [List.length_map]; exact h.len, .inr ⟨F.pB, 0, rfl, fun j v hv => ?_⟩, fun i q p hq hp => ?_⟩, .inr ⟨F.eB, 0, rfl, fun j v hv => by rw [Nat.zero_add]; exact h.er.cell j v hv⟩, .inr ⟨F.bB, 0, rfl, fun j v hv => by rw [Nat.zero_add]; exact h.bl.cell j v hv⟩, h.ok.by8⟩
  · rw [Nat.zero_add]
    refine h.pg.cell j v ?_
    rw [← hv, List.getElem?_zipWith, List.getElem?_zipWith, List.getElem?_map]
    rw [show s.st.pages = s.pages from rfl]
    cases F.ps[j]? <;> cases s.pages[j]? <;> rfl
  · rw [List.getElem?_map] at hq
    cases hf : F.ps[i]? with
    | none => rw [hf] at hq; cases hq
    | some q0 =>
      rw [hf] at hq
      injection hq with hq
      subst hq
      exact .inr ⟨q0.1, 0, rfl, fun j v hv => by rw [Nat.zero_add]; exact (h.page i q0 p hf hp).cell j v hv⟩
end Go.Proofs.YtcpdanjbnijoiaaGreatDoor


/-! The reference's Blank, Fits. -/
namespace Go.Proofs.YtcpdanjbnijoiaaGreatDoor
open Go.RowKit
set_option linter.unusedVariables false

theorem blank_set (k : Nat) (hk : k < 32) : (List.replicate k (255#8 : By) ++ List.replicate (32 - k) 0).set k 255#8 = List.replicate (k + 1) 255#8 ++ List.replicate (32 - (k + 1)) 0 := by
  rw [List.set_append_right _ _ (by simp), List.length_replicate, Nat.sub_self, show 32 - k = (32 - (k + 1)) + 1 by omega, List.replicate_succ, List.set_cons_zero, List.replicate_succ', List.append_assoc]; rfl
theorem map_set_255 (l : List By) (k : Nat) : (l.map B8).set k (.int .u8 255) = (l.set k 255#8).map B8 := by rw [List.map_set]; rfl

set_option maxHeartbeats 1000000 in
set_option maxRecDepth 100000 in
theorem blank_any (w : World) : Calls Tryz.prog 68 #[] w fun e w' => e = .returned (.agg ((List.replicate 32 (255#8 : By)).map B8).toArray) ∧ Below w.heap.size w w' := by
  have r0 := Row.at w 55 ((List.replicate 32 (0 : By)).map B8) _ _ rfl rfl
  have b0 : ∀ o1, Below w.heap.size w (w.alloc o1) := fun o1 => (Below.refl _ _).alloc (Nat.le_refl _) _
  go_enter Tryz.func68, Tryz.ntmps68
  go_wp2_with (refine wpList_store_Row rfl 55 _ _ rfl (w.heap.size + 1) 55 0 ((List.replicate 32 (0 : By)).map B8) ((List.replicate 32 (0 : By)).map B8) (Row.at _ _ _ _ _ (by simp) rfl) (by simp) rfl rfl (by kernel_rfl) (B8_one _) ?_; intro w1 hr1 hs1)
  have r1 := row_whole hr1 (by simp)
  have r2 : Row w1 w.heap.size 55 ((List.replicate 32 (0 : By)).map B8) := (r0.alloc _).but hs1 (by omega)
  have b1 : Below w.heap.size w w1 := hs1.below (((b0 _).alloc (by simp) _)) (by omega)
  clear hr1 hs1 r0
  go_loopw [2] (fun iv wr => ∃ k : Nat, k ≤ 32 ∧ iv = .int .i64 k ∧ Row wr (w.heap.size + 1) 55 ((List.replicate k (255#8 : By) ++ List.replicate (32 - k) 0).map B8) ∧ Row wr w.heap.size 55 ((List.replicate 32 (0 : By)).map B8) ∧ Below w.heap.size w wr) (fun iv _ => 32 - (intOf iv).toNat)
  case atStart => exact ⟨0, by omega, rfl, r1, r2, b1⟩
  case round =>
    clear r1 r2 b1
    obtain ⟨k, hk, rfl, r1, r2, b1⟩ := hrel
    by_cases hlt : k < 32
    · have y0 : (0 : Int) ≤ (k : Int) := by omega
      have y1 : (k : Int) < 32 := by omega
      have hl : (List.replicate k (255#8 : By) ++ List.replicate (32 - k) 0).length = 32 := by simp; omega
      have ck : ∃ v, wr.cell? ⟨w.heap.size + 1, k, none⟩ = some v := ⟨_, r1.cell k _ (List.getElem?_eq_getElem (by rw [List.length_map, hl]; exact hlt))⟩
      obtain ⟨v0, ck⟩ := ck
      have fk := r1.frozen k
      have r3 := r1.set k (.int .u8 255)
      rw [map_set_255, blank_set k hlt] at r3
      have HR : Hid (Row (wr.setCell ⟨w.heap.size + 1, k, none⟩ (.int .u8 255)) (w.heap.size + 1) 55 ((List.replicate (k + 1) (255#8 : By) ++ List.replicate (32 - (k + 1)) 0).map B8)) := r3
      clear r3 hl r1
      have sb := SameBut.setCell (w.heap.size + 1) k (.int .u8 255) wr
      go_wp2
      exact ⟨⟨k + 1, by omega, by go_num, HR.out, r2.but sb (by omega), sb.below b1 (by omega)⟩, by simp [intOf]; omega⟩
    · obtain rfl : k = 32 := by omega
      have y1 : ¬ ((32 : Nat) : Int) < 32 := by omega
      replace r1 : Row wr (w.heap.size + 1) 55 ((List.replicate 32 (255#8 : By)).map B8) := by simpa using r1
      clear hlt hk
      go_wp2_with (first | (refine wpList_load_Row rfl 55 _ rfl _ _ _ r1 rfl _ Tryz.underlying55 rfl (by kernel_rfl) ?_) | (refine wpList_store_Row rfl 55 _ _ rfl _ _ 0 _ ((List.replicate 32 (255#8 : By)).map B8) r2 (by simp) rfl rfl (by kernel_rfl) (B8_one _) ?_; intro w9 hr9 hs9))
      have hr := row_whole hr9 (by simp)
      exact bodyPost_ret_by (results_Row Tryz.results68 _ w9 w.heap.size 55 _ _ rfl hr Tryz.underlying55 rfl (by kernel_rfl)) rfl ⟨rfl, hs9.below b1 (Nat.le_refl _)⟩

/-- Has it the sizes of a config that may be? -/
def Fit (c : Cfg) (t : St) : Prop := (t.pages.length : Int) = 2 + 2 * c.area ∧ (t.erases.length : Int) = 2 + 2 * c.area ∧ (t.blown.length : Int) = c.slots * c.fuses + c.keys ∧ (∀ p, p < t.pages.length → ((t.pages.getD p []).length : Int) = c.cells ∧ 0 ≤ t.erases.getD p 0)

set_option maxHeartbeats 2000000 in
set_option maxRecDepth 100000 in
theorem fits_any (c : Cfg) (v : SV) (t : St) (w : World) (h : StV w v t) (hc : c.may = 0) (l1 : t.pages.length ≤ 140737488355328) (l2 : t.erases.length ≤ 140737488355328) (l3 : t.blown.length ≤ 140737488355328) (r : Bool) (hr : r = true ↔ Fit c t) :
    Calls Tryz.prog 23 #[.agg c.vals.toArray, .agg (v.vals t).toArray] w fun e w' => e = .returned (.bool r) ∧ Below w.heap.size w w' := by
  have HRF : Hid (¬ Fit c t → r = false) := fun hh => by cases hrr : r with | false => rfl | true => exact absurd (hr.1 hrr) hh
  have HRT : Hid (Fit c t → r = true) := fun hh => hr.2 hh
  have hcc : (1 ≤ c.slots ∧ c.slots ≤ 8) ∧ (c.slots + 3 ≤ c.cells ∧ c.cells ≤ 256) ∧ (1 ≤ c.fuses ∧ c.fuses ≤ 64) ∧ (1 ≤ c.keys ∧ c.keys ≤ 64) ∧ (0 ≤ c.area ∧ c.area ≤ 64) := by
    unfold Cfg.may at hc
    split at hc
    · rename_i hh
      simp [Cfg.a, Cfg.b] at hh
      omega
    · omega
  obtain ⟨⟨s1, s2⟩, ⟨q1, q2⟩, ⟨f1, f2⟩, ⟨k1, k2⟩, ar1, ar2⟩ := hcc
  have hmul : 1 ≤ c.slots * c.fuses ∧ c.slots * c.fuses ≤ 512 := by
    refine ⟨?_, ?_⟩
    · have := Int.mul_le_mul s1 f1 (by omega) (by omega); omega
    · have := Int.mul_le_mul s2 f2 (by omega) (by omega); omega
  clear hr hc
  obtain ⟨cells, slots, fuses, step, keys, erases, area⟩ := c
  simp only [Cfg.vals, SV.vals] at *
  have r0 : Row ((w.alloc (.cells #[.int .i64 cells, .int .i64 slots, .int .i64 fuses, .int .i64 step, .int .i64 keys, .int .i64 erases, .int .i64 area] 23)).alloc (.cells #[.slice v.po t.pages.length v.pc, .slice v.eo t.erases.length v.ec, .slice v.bo t.blown.length v.bc] 28)) w.heap.size 23 [.int .i64 cells, .int .i64 slots, .int .i64 fuses, .int .i64 step, .int .i64 keys, .int .i64 erases, .int .i64 area] := (Row.at w 23 _ _ _ rfl rfl).alloc _
  have r1 : Row ((w.alloc (.cells #[.int .i64 cells, .int .i64 slots, .int .i64 fuses, .int .i64 step, .int .i64 keys, .int .i64 erases, .int .i64 area] 23)).alloc (.cells #[.slice v.po t.pages.length v.pc, .slice v.eo t.erases.length v.ec, .slice v.bo t.blown.length v.bc] 28)) (w.heap.size + 1) 28 [.slice v.po t.pages.length v.pc, .slice v.eo t.erases.length v.ec, .slice v.bo t.blown.length v.bc] := Row.at _ _ _ _ _ (by simp) rfl
  have bb : Below w.heap.size w ((w.alloc (.cells #[.int .i64 cells, .int .i64 slots, .int .i64 fuses, .int .i64 step, .int .i64 keys, .int .i64 erases, .int .i64 area] 23)).alloc (.cells #[.slice v.po t.pages.length v.pc, .slice v.eo t.erases.length v.ec, .slice v.bo t.blown.length v.bc] 28)) := ((Below.refl _ _).alloc (Nat.le_refl _) _).alloc (by simp) _
  generalize hW0 : (w.alloc (.cells #[.int .i64 cells, .int .i64 slots, .int .i64 fuses, .int .i64 step, .int .i64 keys, .int .i64 erases, .int .i64 area] 23)).alloc (.cells #[.slice v.po t.pages.length v.pc, .slice v.eo t.erases.length v.ec, .slice v.bo t.blown.length v.bc] 28) = W0 at *
  have c0 := r0.cell 0 _ rfl
  have c1 := r0.cell 1 _ rfl
  have c2 := r0.cell 2 _ rfl
  have c4 := r0.cell 4 _ rfl
  have c6 := r0.cell 6 _ rfl
  have d0 := r1.cell 0 _ rfl
  have d1 := r1.cell 1 _ rfl
  have d2 := r1.cell 2 _ rfl
  have HV : Hid (∀ W, Below w.heap.size w W → StV W v t) := fun W hW => h.below hW (Nat.le_refl _)
  clear r0 r1 h
  have HF : Hid (Fit ⟨cells, slots, fuses, step, keys, erases, area⟩ t ↔ ((t.pages.length : Int) = 2 + 2 * area ∧ (t.erases.length : Int) = 2 + 2 * area ∧ (t.blown.length : Int) = slots * fuses + keys ∧ (∀ p, p < t.pages.length → ((t.pages.getD p []).length : Int) = cells ∧ 0 ≤ t.erases.getD p 0))) := Iff.rfl
  obtain ⟨m1, m2⟩ := hmul
  generalize hSF : slots * fuses = SF at *
  by_cases n1 : (t.pages.length : Int) = 2 + 2 * area
  · by_cases n2 : (t.erases.length : Int) = 2 + 2 * area
    · by_cases n3 : (t.blown.length : Int) = SF + keys
      · have e1 : ((t.pages.length : Int) != 2 + 2 * area) = false := by rw [bne_eq_false_iff_eq]; exact n1
        have e2 : ((t.erases.length : Int) != 2 + 2 * area) = false := by rw [bne_eq_false_iff_eq]; exact n2
        have e3 : ((t.blown.length : Int) != SF + keys) = false := by rw [bne_eq_false_iff_eq]; exact n3
        have N1 : Hid ((t.pages.length : Int) = 2 + 2 * area) := n1
        have N2 : Hid ((t.erases.length : Int) = 2 + 2 * area) := n2
        have N3 : Hid ((t.blown.length : Int) = SF + keys) := n3
        clear n1 n2 n3
        go_enter Tryz.func23, Tryz.ntmps23
        go_wp2
        go_loopw [6] (fun iv wr => ∃ p : Nat, p ≤ t.pages.length ∧ iv = .int .i64 p ∧ Dr W0 wr ∧ Hid (∀ j, j < p → ((t.pages.getD j []).length : Int) = cells ∧ 0 ≤ t.erases.getD j 0)) (fun iv _ => t.pages.length - (intOf iv).toNat)
        case atStart => exact ⟨0, by omega, rfl, Dr.refl _, fun j hj => by omega⟩
        case round =>
          obtain ⟨p, hp, rfl, d, heq⟩ := hrel
          have hn1 := N1.out
          have hn2 := N2.out
          by_cases hlt : p < t.pages.length
          · have y1 : (p : Int) < 2 + 2 * area := by omega
            have y2 : (p : Int) < (t.pages.length : Int) := by omega
            have y3 : (p : Int) < (t.erases.length : Int) := by omega
            have y0 : (0 : Int) ≤ (p : Int) := by omega
            have bwr : Below w.heap.size w wr := Below_dr bb d
            have d0' := d.cell d0
            have d1' := d.cell d1
            have c0' := d.cell c0
            obtain ⟨BA, oA, qa, qca, epa, cpa, _, _⟩ := (HV.out wr bwr).page p hlt
            obtain ⟨BB, oB, eB, cB⟩ := (HV.out wr bwr).er.cell p (Value.int .i64 (t.erases.getD p 0)) (by rw [List.getElem?_map, List.getD_eq_getElem?_getD, List.getElem?_eq_getElem (by omega)]; rfl)
            rw [epa] at d0'
            rw [eB] at d1'
            clear epa eB hn1 hn2
            by_cases x1 : ((t.pages.getD p []).length : Int) = cells
            · have g1 : (((t.pages.getD p []).length : Int) != cells) = false := by rw [bne_eq_false_iff_eq]; exact x1
              by_cases x2 : t.erases.getD p 0 < 0
              · have g2 : decide (t.erases.getD p 0 < 0) = true := by simpa using x2
                have N : Hid (¬ Fit ⟨cells, slots, fuses, step, keys, erases, area⟩ t) := fun hh => by have := ((HF.out.1 hh).2.2.2 p hlt).2; omega
                clear x1 x2
                generalize t.erases.getD p 0 = E0 at *
                generalize (t.pages.getD p []).length = PL at *
                go_wp2
                go_quiet (fail)
                go_wp2
                go_ret
                exact ⟨by rw [HRF.out N.out]; rfl, Below_dr bb (d.drewN nq)⟩
              · have g2 : decide (t.erases.getD p 0 < 0) = false := by simpa using x2
                have HS : Hid (∀ j, j < p + 1 → ((t.pages.getD j []).length : Int) = cells ∧ 0 ≤ t.erases.getD j 0) := fun j hj => by
                  by_cases hjp : j = p
                  · rw [hjp]; exact ⟨x1, by omega⟩
                  · exact heq.out j (by omega)
                clear x1 x2
                generalize t.erases.getD p 0 = E0 at *
                generalize (t.pages.getD p []).length = PL at *
                go_wp2
                go_quiet (fail)
                go_wp2
                exact ⟨⟨p + 1, by omega, by go_num, d.drewN nq, HS.out⟩, by simp [intOf]; omega⟩
            · have g1 : (((t.pages.getD p []).length : Int) != cells) = true := by rw [bne_iff_ne]; exact x1
              have N : Hid (¬ Fit ⟨cells, slots, fuses, step, keys, erases, area⟩ t) := fun hh => x1 ((HF.out.1 hh).2.2.2 p hlt).1
              clear x1
              generalize (t.pages.getD p []).length = PL at *
              go_wp2
              go_quiet (fail)
              go_wp2
              go_ret
              exact ⟨by rw [HRF.out N.out]; rfl, Below_dr bb (d.drewN nq)⟩
          · obtain rfl : p = t.pages.length := by omega
            have y1 : ¬ (t.pages.length : Int) < 2 + 2 * area := by omega
            have HY : Hid (Fit ⟨cells, slots, fuses, step, keys, erases, area⟩ t) := HF.out.2 ⟨N1.out, N2.out, N3.out, heq.out⟩
            clear hlt hp heq hn1 hn2
            go_wp2
            go_ret
            exact ⟨by rw [HRT.out HY.out]; rfl, Below_dr bb d⟩
      · have e1 : ((t.pages.length : Int) != 2 + 2 * area) = false := by rw [bne_eq_false_iff_eq]; exact n1
        have e2 : ((t.erases.length : Int) != 2 + 2 * area) = false := by rw [bne_eq_false_iff_eq]; exact n2
        have e3 : ((t.blown.length : Int) != SF + keys) = true := by rw [bne_iff_ne]; exact n3
        have N : Hid (¬ Fit ⟨cells, slots, fuses, step, keys, erases, area⟩ t) := fun hh => n3 (HF.out.1 hh).2.2.1
        clear n1 n2 n3
        go_enter Tryz.func23, Tryz.ntmps23
        go_wp2
        go_ret
        exact ⟨by rw [HRF.out N.out]; rfl, bb⟩
    · have e1 : ((t.pages.length : Int) != 2 + 2 * area) = false := by rw [bne_eq_false_iff_eq]; exact n1
      have e2 : ((t.erases.length : Int) != 2 + 2 * area) = true := by rw [bne_iff_ne]; exact n2
      have N : Hid (¬ Fit ⟨cells, slots, fuses, step, keys, erases, area⟩ t) := fun hh => n2 (HF.out.1 hh).2.1
      clear n1 n2
      go_enter Tryz.func23, Tryz.ntmps23
      go_wp2
      go_ret
      exact ⟨by rw [HRF.out N.out]; rfl, bb⟩
  · have e1 : ((t.pages.length : Int) != 2 + 2 * area) = true := by rw [bne_iff_ne]; exact n1
    have N : Hid (¬ Fit ⟨cells, slots, fuses, step, keys, erases, area⟩ t) := fun hh => n1 (HF.out.1 hh).1
    clear n1
    go_enter Tryz.func23, Tryz.ntmps23
    go_wp2
    go_ret
    exact ⟨by rw [HRF.out N.out]; rfl, bb⟩
end Go.Proofs.YtcpdanjbnijoiaaGreatDoor
