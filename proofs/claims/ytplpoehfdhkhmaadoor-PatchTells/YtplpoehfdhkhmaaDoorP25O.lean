
import Derived.Test.YtplpoehfdhkhmaaDoorOpenA
import Derived.Test.YtplpoehfdhkhmaaDoorP25Ch
/-! Patch's statements: four rows of bytes in a struct that came in. -/
namespace Go.Proofs.YtplpoehfdhkhmaaDoor
open Go.ChangeShapes Go.WideShapes Go.ChangeAt Go.RowKit
set_option maxRecDepth 100000
section
variable {H : Type} {enc : TypeId × Value -> H} {W : World} {n : Nat} {cs : List Value} {x : DataW H × List MemPlace}
theorem open_in25 (h : DataW.trod enc Tryd.prog W 0 (fun _ => true) true n 23 cs = some x) (hsz : ∀ k ∈ x.1.weights Tryd.prog 23, k <= reachBytes) :
    ∃ (a : Option Addr) (cap : Nat) (bs : List By), cs = [.slice a bs.length cap] /\ RowIn W a cap bs := by
  rcases open_ints Tryd.underlying23 Tryd.underlying5 (by kernel_rfl) h with ⟨e2, _⟩ | ⟨a', len', cap', zs, e2, _⟩
  · subst e2
    obtain ⟨bs, hl, ib, hn, hc, hm⟩ := open_bytes h hsz
    exact ⟨_, _, bs, by rw [hl], ⟨by omega, by omega, hn, ib⟩⟩
  · subst e2
    obtain ⟨bs, hl, ib, hn, hc, hm⟩ := open_bytes h hsz
    exact ⟨_, _, bs, by rw [hl], ⟨by omega, by omega, hn, ib⟩⟩
theorem open_rows25 (h : DataW.trod enc Tryd.prog W 0 (fun _ => true) true n 51 cs = some x) (hsz : ∀ k ∈ x.1.weights Tryd.prog 51, k <= reachBytes) :
    ∃ (a b c q : List By) (ao bo co qo : Option Addr) (ac bc cc qc : Nat), cs = [.slice ao a.length ac, .slice bo b.length bc, .slice co c.length cc, .slice qo q.length qc] /\ R4In W a b c q ao bo co qo ac bc cc qc := by
  obtain ⟨ys, m, rfl, rfl, hl, hx, hf⟩ := DataW.trod_struct Tryd.underlying51 h
  have hl4 : cs.length = 4 := by rw [hl]; kernel_rfl
  have hx4 : ys.length = 4 := hx
  have key : ∀ i, (hi : i < 4) -> ∃ (a : Option Addr) (cap : Nat) (bs : List By), (cs.drop i).take 1 = [.slice a bs.length cap] /\ RowIn W a cap bs := fun i hi => by
    have h4 : DataW.trod enc Tryd.prog W 0 (fun _ => true) true m 23 ((cs.drop i).take (Tryd.prog.cellsOf 23)) = ys[i]? := by
      match i, hi with
      | 0, _ => exact hf 0 _ rfl
      | 1, _ => exact hf 1 _ rfl
      | 2, _ => exact hf 2 _ rfl
      | 3, _ => exact hf 3 _ rfl
    rw [List.getElem?_eq_getElem (by omega), show Tryd.prog.cellsOf 23 = 1 by kernel_rfl] at h4
    refine open_in25 h4 (fun k hk => hsz k ?_)
    simp only [DataW.weights, Tryd.underlying51]
    refine DataW.weights_mem_each (j := i) (t := 23) (d := ys[i].1) ?_ (by rw [List.getElem?_map, List.getElem?_eq_getElem (by omega)]; rfl) k hk
    match i, hi with
    | 0, _ => rfl
    | 1, _ => rfl
    | 2, _ => rfl
    | 3, _ => rfl
  obtain ⟨ao, ac, a, e0, r0⟩ := key 0 (by omega)
  obtain ⟨bo, bc, b, e1, r1⟩ := key 1 (by omega)
  obtain ⟨co, cc, c, e2, r2⟩ := key 2 (by omega)
  obtain ⟨qo, qc, q, e3, r3⟩ := key 3 (by omega)
  refine ⟨a, b, c, q, ao, bo, co, qo, ac, bc, cc, qc, ?_, ⟨r0, r1, r2, r3⟩⟩
  match cs, hl4 with
  | [a0, a1, a2, a3], _ =>
    simp at e0 e1 e2 e3
    subst e0 e1 e2 e3; rfl
end
end Go.Proofs.YtplpoehfdhkhmaaDoor
