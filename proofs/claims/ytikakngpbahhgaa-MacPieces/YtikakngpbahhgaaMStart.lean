import Derived.Test.YtikakngpbahhgaaMRel
import Derived.Deep.CutBlock
import Derived.Deep.DeepCutAuto
namespace Go.Proofs.Ytikakngpbahhgaa
open Go.RowKit

theorem owns_empty (N : Nat) (w : World) (h : N ≤ w.heap.size) (e : TypeId) : (w.alloc (.cells #[] e)).ownsRow N e 1 (.slice (some ⟨w.heap.size, 0, none⟩) 0 0) 0 [] :=
  ⟨by simp, .inr ⟨w.heap.size, 0, #[], rfl, h, heap_alloc_new w _, by simp, by unfold maxLen; omega, by simp, by simp⟩⟩

theorem start_st (w : World) : PSt w.heap.size (· < (((w.alloc (.cells #[] 22)).alloc (.cells #[] 38)).alloc (.cells #[] 22)).heap.size) (((w.alloc (.cells #[] 22)).alloc (.cells #[] 38)).alloc (.cells #[] 22)) w.heap.size 0 (w.heap.size + 1) 0 (w.heap.size + 2) 0 [] := by
  have h1 := owns_empty w.heap.size w (Nat.le_refl _) 22
  have h2 := owns_empty w.heap.size (w.alloc (.cells #[] 22)) (by simp) 38
  have h3 := owns_empty w.heap.size ((w.alloc (.cells #[] 22)).alloc (.cells #[] 38)) (by simp; omega) 22
  have z1 : (w.alloc (.cells #[] 22)).heap.size = w.heap.size + 1 := by simp
  have z2 : ((w.alloc (.cells #[] 22)).alloc (.cells #[] 38)).heap.size = w.heap.size + 2 := by simp
  rw [z1] at h2
  rw [z2] at h3
  refine ⟨(h1.alloc _).alloc _, h2.alloc _, h3, by omega, by omega, by omega, by simp <;> omega, by simp <;> omega, by simp, fun t ht => by simp at ht, by simp⟩

/-- Of each Mac, its key and its bytes: where they lie, and what the three calls answer. -/
def ItAt (gk gl ga n : Nat) (w : World) : Prop := ∀ p, p < n → ∃ (g : Nat) (ko : Option Addr) (mk kc : Nat) (ao : Option Addr) (m cap : Nat) (sm : List By), sm.length = 32 ∧ gk < w.heap.size ∧ gl < w.heap.size ∧ ga < w.heap.size ∧
  w.cell? ⟨gk, p, none⟩ = some (.slice ko mk kc) ∧ w.cell? ⟨gl, p, none⟩ = some (.pointer (some ⟨g, 0, none⟩)) ∧ w.cell? ⟨ga, p, none⟩ = some (.slice ao m cap) ∧
  Hid (∀ W, Below w.heap.size w W → Calls Try.prog 16 #[.pointer (some ⟨g, 0, none⟩)] W fun e w' => e = .returned (.agg (sm.map B8).toArray) ∧ Below W.heap.size W w') ∧
  Hid (∀ W, Below w.heap.size w W → Calls Try.prog 8 #[.slice ko mk kc, .slice ao m cap] W fun e w' => e = .returned (.agg (sm.map B8).toArray) ∧ Below W.heap.size W w') ∧
  Hid (∀ W, Below w.heap.size w W → Calls Try.prog 7 #[.slice ko mk kc, .slice ao m cap] W fun e w' => e = .returned (.agg (sm.map B8).toArray) ∧ Below W.heap.size W w')
theorem ItAt.of {w0 w : World} {gk ck gl cl ga ca n c : Nat} {items : List Mt} (hn : n = items.length) (h : PSt w0.heap.size (· < w.heap.size) w gk ck gl cl ga ca items) (hb0 : Below w0.heap.size w0 w) (hit : ∀ t ∈ items, ItG w0 c t) (hc : c ≤ 2147483648) : ItAt gk gl ga n w := by
  intro p hp
  subst hn
  have ht : items[p]? = some items[p] := List.getElem?_eq_getElem hp
  obtain ⟨sm, k1, k2, k3, k4⟩ := it_calls h (fun _ h => h) rfl hb0 items[p] (List.getElem_mem hp) (hit _ (List.getElem_mem hp)) hc
  exact ⟨_, _, _, _, _, _, _, sm, k1, h.sk, h.sl, h.sa, h.cellK p _ ht, h.cellL p _ ht, h.cellA p _ ht, k2, k3, k4⟩
theorem ItAt.below {gk gl ga n : Nat} {w w' : World} (h : ItAt gk gl ga n w) (hb : Below w.heap.size w w') : ItAt gk gl ga n w' := by
  intro p hp
  obtain ⟨g, ko, mk, kc, ao, m, cap, sm, k1, l0, l1, l2, c0, c1, c2, k2, k3, k4⟩ := h p hp
  have hs := hb.size
  exact ⟨g, ko, mk, kc, ao, m, cap, sm, k1, by omega, by omega, by omega, (hb.cell (p := ⟨gk, p, none⟩) l0).trans c0, (hb.cell (p := ⟨gl, p, none⟩) l1).trans c1, (hb.cell (p := ⟨ga, p, none⟩) l2).trans c2,
    fun W hW => k2 W (hb.trans (hW.mono hs)), fun W hW => k3 W (hb.trans (hW.mono hs)), fun W hW => k4 W (hb.trans (hW.mono hs))⟩
theorem cost_cons (o : Sc) (ops : List Sc) (k : Nat) : cost (o :: ops) (k + 1) = 1 + o.bs.length + cost ops k := by
  unfold cost; simp

end Go.Proofs.Ytikakngpbahhgaa
