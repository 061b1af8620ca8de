import Derived.Test.YthjndaeibbfgaaaR4B
import Derived.Laws.ResultCell
/-! Cells of 32 bytes within a page; whole arrays loaded and stored. -/
namespace Go.Proofs.Ythjndaeibbfgaaa
open Go.RowKit

theorem row_whole {w : World} {g t : Nat} {old new : List Value} (h : Row w g t (old.take 0 ++ new ++ old.drop (0 + new.length))) (hl : old.length ≤ new.length) : Row w g t new := by
  rw [List.take_zero, List.nil_append, Nat.zero_add, List.drop_eq_nil_of_le hl, List.append_nil] at h; exact h
theorem Dr.cell {w w' : World} (h : Dr w w') {a : Addr} {v : Value} (c : w.cell? a = some v) : w'.cell? a = some v := by
  obtain ⟨n, rfl⟩ := h; exact c
theorem wpList_load_part {P : Program} {ops : Array Oper} {rest : List Oper} {op : Oper} {a : Act} {w : World} {Q : Exit → Act → World → Prop} (hgd : op.guard = none) (ty : TypeId) (x : Operand) (ho : op.op = .load ty x)
    (g o t n : Nat) (cs : List Value) (hr : Row w g t cs) (hx : a.eval x = .pointer (some ⟨g, o, none⟩)) (d : TypeDesc) (cs' : List Value) (hcs : (cs.drop o).take n = cs') (hn : cs'.length = n)
    (hu : P.underlying ty = some d) (hd : d.isRow = true) (hi : (P.info? ty).map (·.size) = some n)
    (h : wpList P ops Q rest (a.put op.dst (.agg cs'.toArray)) w) : wpList P ops Q (op :: rest) a w := by
  subst hcs
  exact wpList_load_mid hgd ty x ho g o hx _ d (hr.range o n) hu hd (by rw [hn]; exact hi) h

theorem flat_len : ∀ (p : List (List By)), (∀ x ∈ p, x.length = 32) → p.flatten.length = 32 * p.length
  | [], _ => rfl
  | x :: p, h => by
    rw [List.flatten_cons, List.length_append, h x (by simp), flat_len p (fun y hy => h y (by simp [hy])), List.length_cons]; omega
theorem flat_seg : ∀ (p : List (List By)), (∀ x ∈ p, x.length = 32) → ∀ c, c < p.length → (p.flatten.drop (32 * c)).take 32 = p.getD c []
  | x :: p, h, 0, _ => by
    rw [List.flatten_cons, Nat.mul_zero, List.drop_zero, List.take_left' (h x (by simp))]; rfl
  | x :: p, h, c + 1, hc => by
    rw [List.flatten_cons, show 32 * (c + 1) = 32 + 32 * c by omega, List.drop_append, h x (by simp), List.drop_eq_nil_of_le (by rw [h x (by simp)]; omega), List.nil_append, show 32 + 32 * c - 32 = 32 * c by omega]
    exact flat_seg p (fun y hy => h y (by simp [hy])) c (by simpa using hc)
theorem flat_get (p : List (List By)) (h : ∀ x ∈ p, x.length = 32) (c i : Nat) (hc : c < p.length) (hi : i < 32) : p.flatten[32 * c + i]? = some ((p.getD c []).getD i 0) := by
  have h1 := flat_seg p h c hc
  have hl : (p.getD c []).length = 32 := by
    rw [List.getD_eq_getElem?_getD, List.getElem?_eq_getElem hc]; exact h _ (List.getElem_mem hc)
  have h2 : ((p.flatten.drop (32 * c)).take 32)[i]? = p.flatten[32 * c + i]? := by
    rw [List.getElem?_take, if_pos hi, List.getElem?_drop]
  generalize p.getD c [] = x at h1 hl ⊢
  rw [← h2, h1, List.getD_eq_getElem?_getD, List.getElem?_eq_getElem (by omega)]; rfl
theorem flat_set : ∀ (p : List (List By)), (∀ x ∈ p, x.length = 32) → ∀ (c i : Nat) (v : By), c < p.length → i < 32 → p.flatten.set (32 * c + i) v = (p.set c ((p.getD c []).set i v)).flatten
  | x :: p, h, 0, i, v, _, hi => by
    rw [List.flatten_cons, Nat.mul_zero, Nat.zero_add, List.set_append_left _ _ (by rw [h x (by simp)]; exact hi), List.set_cons_zero, List.flatten_cons]; rfl
  | x :: p, h, c + 1, i, v, hc, hi => by
    rw [List.flatten_cons, List.set_append_right _ _ (by rw [h x (by simp)]; omega), h x (by simp), List.set_cons_succ, List.flatten_cons, show 32 * (c + 1) + i - 32 = 32 * c + i by omega, flat_set p (fun y hy => h y (by simp [hy])) c i v (by simpa using hc) hi]; rfl

/-- The cell number c of page p. -/
def RS.cell (s : RS) (p c : Nat) : List By := (s.pages.getD p []).getD c []
def RS.setCell (s : RS) (p c : Nat) (x : List By) : RS := { s with pages := s.pages.set p ((s.pages.getD p []).set c x) }

theorem RAt.pageAt {w : World} {F : RF} {s : RS} (h : RAt w F s) (p : Nat) (hp : p < s.pages.length) : ∃ q, F.ps[p]? = some q ∧ w.cell? ⟨F.pB, p, none⟩ = some (.slice (some ⟨q.1, 0, none⟩) (s.pages.getD p []).length q.2) ∧ Pre w q.1 49 ((s.pages.getD p []).flatten.map B8) ∧ q.1 ∈ F.blocks ∧ q.1 ≠ F.g ∧ q.1 ≠ F.pB := by
  have hq : F.ps[p]? = some (F.ps[p]'(by rw [h.len]; exact hp)) := List.getElem?_eq_getElem _
  have hpp : s.pages[p]? = some s.pages[p] := List.getElem?_eq_getElem hp
  have hd : s.pages.getD p [] = s.pages[p] := by rw [List.getD_eq_getElem?_getD, hpp]; rfl
  have hm : (F.ps[p]'(by rw [h.len]; exact hp)).1 ∈ F.ps.map (·.1) := List.mem_map_of_mem (List.getElem_mem _)
  have hnd := h.nd
  simp only [RF.blocks, List.nodup_cons, List.mem_cons, List.mem_append, not_or] at hnd
  obtain ⟨⟨n1, n2, n3, n4, n5⟩, ⟨m1, m2, m3, m4⟩, _⟩ := hnd
  refine ⟨_, hq, ?_, ?_, ?_, fun e => n4 (e ▸ hm), fun e => m3 (e ▸ hm)⟩
  · rw [hd]
    exact h.pg.cell p _ (by rw [List.getElem?_zipWith, hq, hpp]; rfl)
  · rw [hd]; exact h.page p _ _ hq hpp
  · simp only [RF.blocks, List.mem_cons, List.mem_append]
    exact .inr (.inr (.inr (.inr (.inl hm))))

theorem RS.Ok.pgLen {s : RS} (h : s.Ok) (p : Nat) (hp : p < s.pages.length) : ((s.pages.getD p []).length : Int) = s.c.cells ∧ ∀ x ∈ s.pages.getD p [], x.length = 32 := by
  have hd : s.pages.getD p [] = s.pages[p] := by rw [List.getD_eq_getElem?_getD, List.getElem?_eq_getElem hp]; rfl
  rw [hd]
  exact ⟨h.cl _ (List.getElem_mem hp), h.by8 _ (List.getElem_mem hp)⟩
end Go.Proofs.Ythjndaeibbfgaaa
