
import Derived.Test.YtngfdofjflmhhaaL4Open2
/-! A script that came in. -/
namespace Go.Proofs.Ytngfdofjflmhhaa
open Go.ChangeShapes Go.WideShapes Go.ChangeAt Go.RowKit
section
variable {H : Type} {enc : TypeId × Value → H} {W : World} {n : Nat} {cs : List Value} {x : DataW H × List MemPlace}

theorem open_step7 (h : DataW.trod enc Try.prog W 0 (fun _ => true) true n 40 cs = some x) : ∃ k a b : Int, cs = [.int .i64 k, .int .i64 a, .int .i64 b] ∧ b < 9223372036854775808 := by
  obtain ⟨xs, m, rfl, rfl, hl, hx, hf⟩ := DataW.trod_struct Try.underlying40 h
  have hl3 : cs.length = 3 := by rw [hl]; kernel_rfl
  have hx3 : xs.length = 3 := hx
  obtain ⟨z0, e0, _⟩ := int_at (i := 0) (by omega) (by omega) (hf 0 _ rfl)
  obtain ⟨z1, e1, _⟩ := int_at (i := 1) (by omega) (by omega) (hf 1 _ rfl)
  obtain ⟨z2, e2, _, hb⟩ := int_at (i := 2) (by omega) (by omega) (hf 2 _ rfl)
  refine ⟨z0, z1, z2, ?_, hb⟩
  match cs, hl3 with
  | [a0, a1, a2], _ =>
    simp at e0 e1 e2
    subst e0 e1 e2; rfl

theorem open_steps7 (h : DataW.trod enc Try.prog W 0 (fun _ => true) true n 29 cs = some x) (hsz : ∀ k ∈ x.1.weights Try.prog 29, k ≤ reachBytes) :
    ∃ (a : Option Addr) (len cap : Nat), cs = [.slice a len cap] ∧ len * 24 ≤ 140737488355328 ∧ ∀ j, j < len → ∃ SB off k ka kb, a = some ⟨SB, off, none⟩ ∧ SB < W.heap.size ∧ kb < 9223372036854775808 ∧ W.rangeAt SB (off + j * 3) [.int .i64 k, .int .i64 ka, .int .i64 kb] := by
  rcases Deep.open_slice Try.underlying29 h with ⟨rfl, rfl⟩ | ⟨a, len, cap, m, n', D, Pl, rfl, hb, hl, hm, hmm, rfl, hel⟩
  · exact ⟨none, 0, 0, rfl, by simp, by simp⟩
  · rw [show Try.prog.cellsOf 40 = 3 by kernel_rfl] at hel
    simp at hmm
    subst hmm
    simp only [DataW.weights, Try.underlying29] at hsz
    have hlen : len * 24 ≤ 140737488355328 := by
      have h1 := hsz _ (List.mem_cons_self ..)
      rw [show Try.prog.bytesOf 40 = 24 by kernel_rfl] at h1
      simp only [List.length_map, List.length_range, reachBytes] at h1
      omega
    refine ⟨some a, len, m, rfl, hlen, fun j hj => ?_⟩
    obtain ⟨b, off, spot⟩ := a
    obtain ⟨cs', h1, h2⟩ := hel j (by omega)
    obtain ⟨_, hl3, hc⟩ := World.cells?_some h1
    obtain ⟨k, ka, kb, e, hkb⟩ := open_step7 h2
    subst e
    have hspot : spot = none := by
      obtain ⟨cs0, k1, _⟩ := hel 0 (by omega)
      obtain ⟨_, hl0, hc0⟩ := World.cells?_some k1
      have h2 := hc0 0 (by omega)
      rw [List.getElem?_eq_getElem (by omega)] at h2
      simpa [Addr.add] using World.cell?_spot h2
    subst hspot
    have hrg : W.rangeAt b (off + j * 3) [.int .i64 k, .int .i64 ka, .int .i64 kb] := fun i v hv => by
      have hil := (List.getElem?_eq_some_iff.1 hv).1
      have h3 := hc i (by omega)
      rw [add_add, hv] at h3
      rw [← h3, Nat.add_assoc]
    have hb0 : b < W.heap.size := World.block_lt_of_cell? _ _ (hrg 0 _ rfl)
    exact ⟨b, off, k, ka, kb, rfl, hb0, hkb, hrg⟩
end
end Go.Proofs.Ytngfdofjflmhhaa
