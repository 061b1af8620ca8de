
import Derived.Test.YtjooabgjkjnhhaaGreatDoorV24K
import Derived.Test.YtjooabgjkjnhhaaGreatDoorV24J
/-! The code's token: what Get keeps. -/
namespace Go.Proofs.YtjooabgjkjnhhaaGreatDoor
open Go.RowKit
set_option linter.unusedVariables false
set_option linter.unusedSimpArgs false
set_option maxRecDepth 100000

theorem getD_take26 (l : List By) (i m : Nat) (h : i < m) : (l.take m).getD i 0 = l.getD i 0 := by
  rw [List.getD_eq_getElem?_getD, List.getD_eq_getElem?_getD, List.getElem?_take, if_pos h]
theorem cvAt_take (l : List By) : cvAt (l.take 26) = cvAt l := by
  unfold cvAt
  rw [num8_drop, num8_drop, num8_drop, num8_drop l 2, num8_drop l 10, num8_drop l 18]
  rw [getD_take26 l 0 26 (by omega), getD_take26 l 1 26 (by omega)]
  simp only [getD_take26 l _ 26 (by omega : (2 : Nat) < 26), getD_take26 l _ 26 (by omega : (2 + 1 : Nat) < 26), getD_take26 l _ 26 (by omega : (2 + 2 : Nat) < 26), getD_take26 l _ 26 (by omega : (2 + 3 : Nat) < 26), getD_take26 l _ 26 (by omega : (2 + 4 : Nat) < 26), getD_take26 l _ 26 (by omega : (2 + 5 : Nat) < 26), getD_take26 l _ 26 (by omega : (2 + 6 : Nat) < 26), getD_take26 l _ 26 (by omega : (2 + 7 : Nat) < 26),
    getD_take26 l _ 26 (by omega : (10 : Nat) < 26), getD_take26 l _ 26 (by omega : (10 + 1 : Nat) < 26), getD_take26 l _ 26 (by omega : (10 + 2 : Nat) < 26), getD_take26 l _ 26 (by omega : (10 + 3 : Nat) < 26), getD_take26 l _ 26 (by omega : (10 + 4 : Nat) < 26), getD_take26 l _ 26 (by omega : (10 + 5 : Nat) < 26), getD_take26 l _ 26 (by omega : (10 + 6 : Nat) < 26), getD_take26 l _ 26 (by omega : (10 + 7 : Nat) < 26),
    getD_take26 l _ 26 (by omega : (18 : Nat) < 26), getD_take26 l _ 26 (by omega : (18 + 1 : Nat) < 26), getD_take26 l _ 26 (by omega : (18 + 2 : Nat) < 26), getD_take26 l _ 26 (by omega : (18 + 3 : Nat) < 26), getD_take26 l _ 26 (by omega : (18 + 4 : Nat) < 26), getD_take26 l _ 26 (by omega : (18 + 5 : Nat) < 26), getD_take26 l _ 26 (by omega : (18 + 6 : Nat) < 26), getD_take26 l _ 26 (by omega : (18 + 7 : Nat) < 26)]
/-- Bytes from a place on. -/
theorem isB_part {w : World} {B off : Nat} {b : List By} (h : IsB w (some ⟨B, off, none⟩) b) (p m : Nat) : IsB w (some ⟨B, off + p, none⟩) ((b.drop p).take m) := by
  rcases h with rfl | ⟨B', off', e, hc⟩
  · exact .inl (by simp)
  · injection e with e; injection e with e1 e2
    subst e1 e2
    refine .inr ⟨B, off + p, rfl, fun j v hj => ?_⟩
    rw [List.getElem?_take] at hj
    split at hj
    · rw [List.getElem?_drop] at hj
      rw [Nat.add_assoc]
      exact hc (p + j) v hj
    · cases hj
theorem getR_scan {b : List By} {x : Nat × Nat} (h : scan24 b 0 8 = some x) : getR b = .error x := by unfold getR; rw [h]
theorem getR_id {b : List By} (h : scan24 b 0 8 = none) (h2 : b.length < 8 + (b.getD 6 0).toNat) : getR b = .error (6, b.length) := by unfold getR; rw [h]; dsimp only; rw [if_pos h2]
theorem getR_cs {b : List By} {x : Nat × Nat} (h : scan24 b 0 8 = none) (h2 : ¬ b.length < 8 + (b.getD 6 0).toNat) (h3 : csR b (8 + (b.getD 6 0).toNat) (b.getD 7 0).toNat = .error x) : getR b = .error x := by unfold getR; rw [h]; dsimp only; rw [if_neg h2, h3]
theorem getR_tag {b : List By} {l : List Cv} (h : scan24 b 0 8 = none) (h2 : ¬ b.length < 8 + (b.getD 6 0).toNat) (h3 : csR b (8 + (b.getD 6 0).toNat) (b.getD 7 0).toNat = .ok l) (h4 : b.length < 8 + (b.getD 6 0).toNat + 26 * (b.getD 7 0).toNat + 32) : getR b = .error (6, b.length) := by unfold getR; rw [h]; dsimp only; rw [if_neg h2, h3]; dsimp only; rw [if_pos h4]
theorem getR_rest {b : List By} {l : List Cv} (h : scan24 b 0 8 = none) (h2 : ¬ b.length < 8 + (b.getD 6 0).toNat) (h3 : csR b (8 + (b.getD 6 0).toNat) (b.getD 7 0).toNat = .ok l) (h4 : 8 + (b.getD 6 0).toNat + 26 * (b.getD 7 0).toNat + 32 < b.length) : getR b = .error (7, 8 + (b.getD 6 0).toNat + 26 * (b.getD 7 0).toNat + 32) := by unfold getR; rw [h]; dsimp only; rw [if_neg h2, h3]; dsimp only; rw [if_neg (by omega), if_pos h4]
theorem getR_ok {b : List By} {l : List Cv} (h : scan24 b 0 8 = none) (h2 : ¬ b.length < 8 + (b.getD 6 0).toNat) (h3 : csR b (8 + (b.getD 6 0).toNat) (b.getD 7 0).toNat = .ok l) (h4 : b.length = 8 + (b.getD 6 0).toNat + 26 * (b.getD 7 0).toNat + 32) : getR b = .ok ⟨((b.getD 5 0).toNat : Int), (b.drop 8).take (b.getD 6 0).toNat, l, b.drop (8 + (b.getD 6 0).toNat + 26 * (b.getD 7 0).toNat)⟩ := by unfold getR; rw [h]; dsimp only; rw [if_neg h2, h3]; dsimp only; rw [if_neg (by omega), if_neg (by omega)]
theorem scan_k {b : List By} (h : scan24 b 0 8 = none) : 8 ≤ b.length ∧ 1 ≤ (b.getD 6 0).toNat ∧ (b.getD 6 0).toNat ≤ 64 ∧ (b.getD 7 0).toNat ≤ 32 := by
  obtain ⟨h1, h2⟩ := scan24_none 8 0 (by omega) h
  have p6 : 1 ≤ (b.getD 6 0).toNat ∧ (b.getD 6 0).toNat ≤ 64 := of_decide_eq_true (show decide (1 ≤ (b.getD 6 0).toNat ∧ (b.getD 6 0).toNat ≤ 64) = true from h2 6 (by omega) (by omega))
  have p7 : (b.getD 7 0).toNat ≤ 32 := of_decide_eq_true (show decide ((b.getD 7 0).toNat ≤ 32) = true from h2 7 (by omega) (by omega))
  exact ⟨by omega, p6.1, p6.2, p7⟩
/-- A token that is being read. -/
structure GTk (w : World) (id : List By) (io : Option Addr) (ic : Nat) (LC : List Cv) (lo : Option Addr) (lc : Nat) (tg : List By) (W : World) : Prop where
  bel : Below w.heap.size w W
  res : Row W w.heap.size 40 zTk
  t : Row W (w.heap.size + 1) 40 (tkC 0 io id.length ic lo LC.length lc tg)
  id : Own (w.heap.size + 2) W (.slice io id.length ic) id
  cav : W.ownsRow (w.heap.size + 2) 52 5 (.slice lo LC.length lc) LC.length (LC.flatMap cvC)
  ok : ∀ c ∈ LC, c.ok
section
variable {w : World} {id : List By} {io : Option Addr} {ic : Nat} {LC : List Cv} {lo : Option Addr} {lc : Nat} {tg : List By} {W W2 : World}
theorem GTk.keep (h : GTk w id io ic LC lo lc tg W) (hb : Below W.heap.size W W2) : GTk w id io ic LC lo lc tg W2 :=
  ⟨h.bel.trans (hb.mono h.bel.size), h.res.below hb h.res.lt, h.t.below hb h.t.lt, h.id.keep hb, owB_keep h.cav hb, h.ok⟩
theorem GTk.start (w : World) : GTk w [] none 0 [] none 0 (List.replicate 32 0) ((w.alloc (.cells zTk.toArray 40)).alloc (.cells zTk.toArray 40)) :=
  ⟨((Below.refl _ _).alloc (Nat.le_refl _) _).alloc (by simp) _, (Row.at w 40 zTk _ _ rfl rfl).alloc _, Row.at _ _ _ _ _ (by simp) rfl, ⟨World.ownsRow_nil _ _ _ _, by simp⟩, World.ownsRow_nil _ _ _ _, fun c hc => (by cases hc)⟩
/-- The ID is told. -/
theorem GTk.setid (h : GTk w [] none 0 [] none 0 tg W) {id2 : List By} {B : Nat} (ho : Own W.heap.size W2 (.slice (some ⟨B, 0, none⟩) id2.length id2.length) id2) (hb : Below W.heap.size W W2) : GTk w id2 (some ⟨B, 0, none⟩) id2.length [] none 0 tg (W2.setCell ⟨w.heap.size + 1, 1, none⟩ (.slice (some ⟨B, 0, none⟩) id2.length id2.length)) := by
  have h2 := h.keep hb
  have hs := SameBut.setCell (w.heap.size + 1) 1 (.slice (some ⟨B, 0, none⟩) id2.length id2.length) W2
  have hz : w.heap.size + 2 ≤ W.heap.size := h.id.2
  refine ⟨hs.below h2.bel (by omega), h2.res.but hs (by omega), ?_, own_butr (own_le ho hz) hs h2.t (by decide), World.ownsRow_nil _ _ _ _, fun c hc => (by cases hc)⟩
  exact h2.t.set 1 (.slice (some ⟨B, 0, none⟩) id2.length id2.length)
/-- A caveat more. -/
theorem GTk.push (h : GTk w id io ic LC lo lc tg W) (c : Cv) (hc : c.ok) {lo' : Option Addr} {lc' : Nat}
    (ho : W2.ownsRow (w.heap.size + 2) 52 5 (.slice lo' (LC.length + 1) lc') (LC.length + 1) (LC.flatMap cvC ++ cvC c)) (hz : W.heap.size ≤ W2.heap.size) (hbel : Below (w.heap.size + 2) W W2) (hk : ∀ k, k < W.heap.size → (∀ g, lo = some ⟨g, 0, none⟩ → k ≠ g) → W2.heap[k]? = W.heap[k]?) :
    GTk w id io ic (LC ++ [c]) lo' lc' tg (W2.setCell ⟨w.heap.size + 1, 2, none⟩ (.slice lo' (LC.length + 1) lc')) := by
  have ht2 : Row W2 (w.heap.size + 1) 40 (tkC 0 io id.length ic lo LC.length lc tg) := row_still h.cav hk h.t (by decide)
  have hr2 : Row W2 w.heap.size 40 zTk := row_still h.cav hk h.res (by decide)
  have hs := SameBut.setCell (w.heap.size + 1) 2 (.slice lo' (LC.length + 1) lc') W2
  have hid2 : Own (w.heap.size + 2) W2 (.slice io id.length ic) id := ⟨own_still h.cav hk h.id.1 (by decide), Nat.le_trans h.id.2 hz⟩
  refine ⟨hs.below (h.bel.trans (hbel.mono (by omega))) (by omega), hr2.but hs (by omega), ?_, own_butr hid2 hs ht2 (by decide), ?_, fun d hd => ?_⟩
  · have := ht2.set 2 (.slice lo' (LC.length + 1) lc')
    rw [List.length_append]
    exact this
  · rw [List.flatMap_append, List.length_append]
    have := owB_but ho hs ht2 (by decide)
    simpa using this
  · rcases List.mem_append.1 hd with hd | hd
    · exact h.ok d hd
    · rw [List.mem_singleton.1 hd]; exact hc
/-- The tag is told. -/
theorem GTk.settag (h : GTk w id io ic LC lo lc tg W) {tg2 : List By} (h32 : tg.length = 32) (h2 : tg2.length = 32) : GTk w id io ic LC lo lc tg2 (W.setCells (w.heap.size + 1) 3 (tg2.map B8)) := by
  have hs := SameBut.setCells (w.heap.size + 1) (tg2.map B8) 3 W
  refine ⟨hs.below h.bel (by omega), h.res.but hs (by omega), ?_, own_butr h.id hs h.t (by decide), owB_but h.cav hs h.t (by decide), h.ok⟩
  have := Row.setCells (tg2.map B8) 3 W _ h.t (by rw [List.length_map, h2, tkC_len h32]; exact Nat.le_refl _)
  have e : ((tkC 0 io id.length ic lo LC.length lc tg).take 3 ++ tg2.map B8 ++ (tkC 0 io id.length ic lo LC.length lc tg).drop (3 + (tg2.map B8).length)) = tkC 0 io id.length ic lo LC.length lc tg2 := by
    rw [List.drop_of_length_le (by rw [List.length_map, h2, tkC_len h32]; exact Nat.le_refl _), List.append_nil]
    rfl
  rw [e] at this
  exact this
end
/-- 'copy' of 32 bytes into a token's tag. -/
theorem wpList_copy_tag {ops : Array Oper} {rest : List Oper} {o : Oper} {a : Act} {w : World} {Q : Exit → Act → World → Prop} (hgd : o.guard = none) (d s : Operand)
    (ho : o.op = .call { callee := .builtin .copy, args := #[d, s], argTypes := #[23, 23] })
    (g ty B off cap : Nat) (C : List Value) (hd : a.eval d = .slice (some ⟨g, 3, none⟩) 32 32) (hs : a.eval s = .slice (some ⟨B, off, none⟩) 32 cap) (hr : Row w g ty C) (hC : C.length = 35) (tg : List By) (h32 : tg.length = 32) (hb : IsB w (some ⟨B, off, none⟩) tg)
    (h : wpList Tryz.prog ops Q rest (a.put o.dst (.int .i64 32)) (w.setCells g 3 (tg.map B8))) : wpList Tryz.prog ops Q (o :: rest) a w := by
  refine wpList_plain hgd fun K hK => ?_
  have hrun := run_copy_cells (P := Tryz.prog) w 23 23 o.type 5 g 3 32 32 ⟨B, off, none⟩ 32 cap (tg.map B8) Tryz.underlying23 (by kernel_rfl) (by rw [List.length_map, h32]; rfl)
    (by
      intro j v hv
      rw [Addr.add_mid]
      rcases hb with e0 | ⟨B', off', e, hc⟩
      · rw [e0] at h32; cases h32
      · injection e with e; injection e with e1 e2
        subst e1 e2
        rw [List.getElem?_map] at hv
        cases hj : tg[j]? with
        | none => rw [hj] at hv; cases hv
        | some x => rw [hj] at hv; injection hv with hv; subst hv; exact hc j x hj)
    (fun j hj => by rw [hr.cell (3 + j) _ (List.getElem?_eq_getElem (by rw [List.length_map, h32] at hj; omega))]; rfl) (fun j hj => hr.frozen _) (B8_one tg)
  rw [List.length_map, h32] at hrun
  have hrun : (Builtin.copy_ #[23, 23] o.type #[.slice (some ⟨g, 3, none⟩) 32 32, .slice (some ⟨B, off, none⟩) 32 cap]).run Tryz.prog w = .ok (.int .i64 32) (w.setCells g 3 (tg.map B8)) := hrun
  unfold Oper.wp execOp
  simp only [ho, resolve, invoke, builtin, Sem.run_bind, Sem.run_pure, Result.andThen_ok, List.map_toArray, List.map_cons, List.map_nil, hd, hs, hrun]
  exact hK _ _ h
/-- Ahead of a round of Get. -/
def GI (w : World) (b : List By) (p : Nat) (W : World) : Prop :=
  (p ≤ 8 ∧ p ≤ b.length ∧ scan24 b 0 8 = scan24 b p (8 - p) ∧ GTk w [] none 0 [] none 0 (List.replicate 32 0) W) ∨
  (∃ (j : Nat) (LC : List Cv) (io : Option Addr) (ic : Nat) (lo : Option Addr) (lc : Nat), scan24 b 0 8 = none ∧ 8 + (b.getD 6 0).toNat ≤ b.length ∧ j ≤ (b.getD 7 0).toNat ∧ LC.length = j ∧ p = 8 + (b.getD 6 0).toNat + 26 * j ∧ p ≤ b.length ∧ csT b p ((b.getD 7 0).toNat - j) LC (b.getD 7 0).toNat (8 + (b.getD 6 0).toNat) ∧ GTk w ((b.drop 8).take (b.getD 6 0).toNat) io ic LC lo lc (List.replicate 32 0) W) ∨
  (∃ (LC : List Cv) (io : Option Addr) (ic : Nat) (lo : Option Addr) (lc : Nat), scan24 b 0 8 = none ∧ 8 + (b.getD 6 0).toNat ≤ b.length ∧ csR b (8 + (b.getD 6 0).toNat) (b.getD 7 0).toNat = .ok LC ∧ p = 8 + (b.getD 6 0).toNat + 26 * (b.getD 7 0).toNat + 32 ∧ p ≤ b.length ∧ GTk w ((b.drop 8).take (b.getD 6 0).toNat) io ic LC lo lc ((b.drop (8 + (b.getD 6 0).toNat + 26 * (b.getD 7 0).toNat)).take 32) W)
theorem GI.head {w : World} {b : List By} {p : Nat} {W : World} (h8 : p ≤ 8) (hp : p ≤ b.length) (hs : scan24 b 0 8 = scan24 b p (8 - p)) (g : GTk w [] none 0 [] none 0 (List.replicate 32 0) W) : GI w b p W := .inl ⟨h8, hp, hs, g⟩
theorem GI.cavs {w : World} {b : List By} {p : Nat} {W : World} (j : Nat) (LC : List Cv) (io : Option Addr) (ic : Nat) (lo : Option Addr) (lc : Nat) (hs : scan24 b 0 8 = none) (hl : 8 + (b.getD 6 0).toNat ≤ b.length) (hj : j ≤ (b.getD 7 0).toNat) (hLC : LC.length = j) (hp : p = 8 + (b.getD 6 0).toNat + 26 * j) (hb : p ≤ b.length) (hc : csT b p ((b.getD 7 0).toNat - j) LC (b.getD 7 0).toNat (8 + (b.getD 6 0).toNat)) (g : GTk w ((b.drop 8).take (b.getD 6 0).toNat) io ic LC lo lc (List.replicate 32 0) W) : GI w b p W := .inr (.inl ⟨j, LC, io, ic, lo, lc, hs, hl, hj, hLC, hp, hb, hc, g⟩)
theorem GI.done {w : World} {b : List By} {p : Nat} {W : World} (LC : List Cv) (io : Option Addr) (ic : Nat) (lo : Option Addr) (lc : Nat) (hs : scan24 b 0 8 = none) (hl : 8 + (b.getD 6 0).toNat ≤ b.length) (hc : csR b (8 + (b.getD 6 0).toNat) (b.getD 7 0).toNat = .ok LC) (hp : p = 8 + (b.getD 6 0).toNat + 26 * (b.getD 7 0).toNat + 32) (hb : p ≤ b.length) (g : GTk w ((b.drop 8).take (b.getD 6 0).toNat) io ic LC lo lc ((b.drop (8 + (b.getD 6 0).toNat + 26 * (b.getD 7 0).toNat)).take 32) W) : GI w b p W := .inr (.inr ⟨LC, io, ic, lo, lc, hs, hl, hc, hp, hb, g⟩)
/-- Something is wrong. -/
theorem CGetP.bad {b : List By} {w w' : World} {E A ge : Nat} (hb : Below w.heap.size w w') (hr : Row w' ge 109 [.int .i64 (E : Int), .int .i64 (A : Int)]) (h : getR b = .error (E, A)) : CGetP b w (.returned (.tuple #[.agg zTk.toArray, .iface 108 (.pointer (some ⟨ge, 0, none⟩))])) w' :=
  ⟨hb, fun E' A' h' => by
    rw [h] at h'; injection h' with h'; injection h' with h1 h2
    subst h1 h2
    exact ⟨ge, ⟨none, 0, none, 0, rfl, ⟨⟨World.ownsRow_nil _ _ _ _, hb.size⟩, World.ownsRow_nil _ _ _ _, rfl, fun c hc => (by cases hc), by show 0 ≤ _; omega⟩⟩, hr⟩, fun x hx => by rw [h] at hx; cases hx⟩
end Go.Proofs.YtjooabgjkjnhhaaGreatDoor
