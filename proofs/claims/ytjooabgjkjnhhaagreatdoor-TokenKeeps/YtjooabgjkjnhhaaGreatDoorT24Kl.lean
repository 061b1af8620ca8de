
import Derived.Test.YtjooabgjkjnhhaaGreatDoorT24Ki
import Derived.Test.YtjooabgjkjnhhaaGreatDoorT24Op
/-! TokenKeeps: from 'own := ..' on. (Printed by tools/gent24c.py.) -/
namespace Go.Proofs.YtjooabgjkjnhhaaGreatDoor
open Go.RowKit
set_option linter.unusedVariables false
set_option linter.unusedSimpArgs false
set_option maxRecDepth 100000

/-- Get of the code and of the document, each in memory of its own. -/
theorem get_own (C : Tok) (b : List By) (hbl : b.length ≤ 140737488351232) : ∃ (x : Tk) (E A : Int), x.cs.length ≤ 32 ∧
    (∀ (bo : Option Addr) (cap : Nat) (W : World), IsB W bo b → b.length ≤ cap → (bo = none → cap = 0) → Calls Tryz.prog 23 #[.slice bo b.length cap] W fun e w' => Below W.heap.size W w' ∧ ∃ v, TkA x v W e w') ∧
    (∀ (bo : Option Addr) (cap : Nat) (W : World), IsB W bo b → b.length ≤ cap → Calls Tryz.prog 24 #[.slice bo b.length cap] W fun e w' => Below W.heap.size W w' ∧ TkD x (.agg #[.int .i64 E, .int .i64 A]) W e w') := by
  cases hq : getR b with
  | error r =>
    obtain ⟨E, A⟩ := r
    refine ⟨tk0, E, A, by decide, fun bo cap W h1 h2 h3 => ?_, fun bo cap W h1 h2 => ?_⟩
    · refine (C.get bo cap b W h1 h2 h3 hbl).mono fun e w' ⟨k1, k2, _⟩ => ⟨k1, ?_⟩
      obtain ⟨ge, ht, hr⟩ := k2 E A hq
      exact ⟨_, ht⟩
    · exact (r24Get_any bo b.length cap b rfl W h1 h2 hbl).mono fun e w' ⟨k1, k2, _⟩ => ⟨k1, none, 0, none, 0, k2 E A hq, tk0_o _ _ _ k1.size⟩
  | ok x =>
    refine ⟨x, 0, 0, (getR_short hq).2, fun bo cap W h1 h2 h3 => ?_, fun bo cap W h1 h2 => ?_⟩
    · exact (C.get bo cap b W h1 h2 h3 hbl).mono fun e w' ⟨k1, _, k2⟩ => ⟨k1, .nilIface, k2 x hq⟩
    · exact (r24Get_any bo b.length cap b rfl W h1 h2 hbl).mono fun e w' ⟨k1, _, k2⟩ => ⟨k1, k2 x hq⟩
theorem wpList_build_tok2 {ops : Array Oper} {rest : List Oper} {o : Oper} {a : Act} {w : World} {Q : Exit → Act → World → Prop} (hgd : o.guard = none) (x y : Operand) (ho : o.op = .buildSlice 65 2 #[(0, x), (1, y)])
    (cs ds : List Value) (hl : cs.length = 35) (hl2 : ds.length = 35) (hx : a.eval x = .agg cs.toArray) (hy : a.eval y = .agg ds.toArray) (h : wpList Tryz.prog ops Q rest (a.put o.dst (.slice (some ⟨w.heap.size, 0, none⟩) 2 2)) (w.alloc (.cells (cs ++ ds).toArray 40))) : wpList Tryz.prog ops Q (o :: rest) a w := by
  refine wpList_plain hgd fun K hK => ?_
  obtain ⟨i0, hi, hz0, hz1, hz2⟩ := info_parts el_toks24.info
  refine wp_buildSlice 65 40 2 _ ho (cs ++ ds).toArray i0 _ Tryz.underlying65 hi hz0 (by rw [hz1]; omega) (by rw [hz1]; omega) ?_ (hK _ _ h)
  rw [hz1]
  have e : (#[(0, x), (1, y)].map fun (i, y) => (i, a.eval y)).toList = (([Value.agg cs.toArray, Value.agg ds.toArray]).zipIdx 0).map fun x => (x.2, x.1) := by simp [hx, hy]
  rw [e, Great.fill_whole (s := 35) (by decide) [Value.agg cs.toArray, Value.agg ds.toArray] _ (fun v hv => by
    rcases List.mem_cons.1 hv with rfl | hv
    · simpa [Value.cells] using hl
    · rw [List.mem_singleton.1 hv]; simpa [Value.cells] using hl2) (by simp)]
  congr 2
  simp [Value.cells]
/-- What was told, and two tokens more. -/
theorem told_more {N : Nat} {Wa W : World} {rs : List Te} {D dc : Nat} (hb : Below Wa.heap.size Wa W) (htodo : ∀ (j : Nat) (r : Te), rs[j]? = some r → TkO 52 N Wa r.x r.io r.ic r.lo r.lc) (hsep : SepT rs) (p q : Te) {Np Nq : Nat} (hp : TkO 52 Np W p.x p.io p.ic p.lo p.lc) (hq : TkO 52 Nq W q.x q.io q.ic q.lo q.lc) (hNp : Wa.heap.size ≤ Np) (hpi : ∀ B off, p.io = some ⟨B, off, none⟩ → B < Nq) (hpl : ∀ B off, p.lo = some ⟨B, off, none⟩ → B < Nq) (hNN : N ≤ Wa.heap.size) (hpq : Np ≤ Nq) :
    SepT (rs ++ [p, q]) ∧ ∀ (j : Nat) (r : Te), (rs ++ [p, q])[j]? = some r → TkO 52 N W r.x r.io r.ic r.lo r.lc := by
  have lt : ∀ (j : Nat) (r : Te), (rs ++ [p, q])[j]? = some r → (j < rs.length ∧ rs[j]? = some r) ∨ (j = rs.length ∧ r = p) ∨ (j = rs.length + 1 ∧ r = q) := fun j r h => by
    by_cases h1 : j < rs.length
    · rw [List.getElem?_append_left h1] at h; exact .inl ⟨h1, h⟩
    · have h2 := (List.getElem?_eq_some_iff.1 h).1
      simp at h2
      rw [List.getElem?_append_right (by omega)] at h
      rcases (by omega : j = rs.length ∨ j = rs.length + 1) with rfl | rfl
      · simp at h; exact .inr (.inl ⟨rfl, h.symm⟩)
      · simp at h; exact .inr (.inr ⟨rfl, h.symm⟩)
  have ap : ∀ (r : Te) (hr : TkO 52 N Wa r.x r.io r.ic r.lo r.lc) (s : Te) (Ns : Nat) (hs : TkO 52 Ns W s.x s.io s.ic s.lo s.lc), Wa.heap.size ≤ Ns → Apt r.io s.io ∧ Apt r.lo s.lo := fun r hr s Ns hs hN => ⟨fun g o p2 e1 e2 => by
    have h1 := (own_lies hr.id.1 g o e1).2.2
    have h2 := (own_lies hs.id.1 g p2 e2).2.1
    omega, fun g o p2 e1 e2 => by
    have h1 := (own_lies hr.cs g o e1).2.2
    have h2 := (own_lies hs.cs g p2 e2).2.1
    omega⟩
  refine ⟨fun j k r r' hjk hr hr' => ?_, fun j r hr => ?_⟩
  · rcases lt j r hr with ⟨h1, h2⟩ | ⟨h1, rfl⟩ | ⟨h1, rfl⟩
    · rcases lt k r' hr' with ⟨h3, h4⟩ | ⟨h3, rfl⟩ | ⟨h3, rfl⟩
      · exact hsep j k r r' hjk h2 h4
      · exact ap r (htodo j r h2) _ Np hp hNp
      · exact ap r (htodo j r h2) _ Nq hq (by omega)
    · rcases lt k r' hr' with ⟨h3, h4⟩ | ⟨h3, rfl⟩ | ⟨h3, rfl⟩
      · omega
      · omega
      · exact ⟨fun g o p2 e1 e2 => (by have h1 := hpi g o e1; have h2 := (own_lies hq.id.1 g p2 e2).2.1; omega), fun g o p2 e1 e2 => (by have h1 := hpl g o e1; have h2 := (own_lies hq.cs g p2 e2).2.1; omega)⟩
    · rcases lt k r' hr' with ⟨h3, h4⟩ | ⟨h3, rfl⟩ | ⟨h3, rfl⟩ <;> omega
  · rcases lt j r hr with ⟨h1, h2⟩ | ⟨h1, rfl⟩ | ⟨h1, rfl⟩
    · exact (htodo j r h2).keep hb
    · exact hp.low (by omega)
    · exact hq.low (by omega)
end Go.Proofs.YtjooabgjkjnhhaaGreatDoor
