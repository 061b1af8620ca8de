
import Derived.Test.YtepafpnpmpijeaaMem
import Derived.Test.YtepafpnpmpijeaaRows
import Derived.DeepKeys
namespace Go.Proofs.Ytepafpnpmpijeaa
open Go.RowKit

theorem mapM_some {α β : Type} {f : α → Option β} (g : α → β) : ∀ (l : List α), (∀ x ∈ l, f x = some (g x)) → l.mapM f = some (l.map g)
  | [], _ => rfl
  | x :: l, h => by
    rw [List.mapM_cons, h x (by simp), mapM_some g l (fun y hy => h y (by simp [hy]))]
    rfl

theorem Try.cells38 : Try.prog.cellsOf 38 = 32 := by kernel_rfl
theorem Try.cells5 : Try.prog.cellsOf 5 = 1 := by kernel_rfl

theorem hash_key (bs : List By) (hl : bs.length = 32) : ∃ l, Try.prog.keyLits 2 38 (bs.map B8) = some l := by
  have hu : Try.prog.underlying 38 = some (.array 32 5) := Try.underlying38
  refine ⟨((List.range 32).map fun i => [Lit.int .u8 ((bs.getD i 0).toNat : Int)]).flatten, ?_⟩
  unfold Program.keyLits
  simp only [hu]
  rw [if_pos (by rw [Try.cells38, List.length_map, hl])]
  rw [mapM_some (fun i => [Lit.int .u8 ((bs.getD i 0).toNat : Int)])]
  · rfl
  · intro i hi
    rw [List.mem_range] at hi
    have e : ((bs.map B8).drop (i * Try.prog.cellsOf 5)).take (Try.prog.cellsOf 5) = [.int .u8 ((bs.getD i 0).toNat : Int)] := by
      rw [Try.cells5, Nat.mul_one, List.drop_eq_getElem_cons (by rw [List.length_map, hl]; exact hi)]
      simp [B8, hl, hi]
    rw [e]
    unfold Program.keyLits
    have h8 := b8_lt (bs.getD i 0)
    simp only [Try.underlying5]
    rw [if_pos ⟨trivial, WalkArith.wf_u8 (by omega)⟩]

theorem eq_self (bs : List By) (hl : bs.length = 32) (w : World) : (Op.equalIn 10000 38 (.agg (bs.map B8).toArray) (.agg (bs.map B8).toArray)).run Try.prog w = .ok true w := by
  obtain ⟨l, hk⟩ := hash_key bs hl
  have hf : (Value.agg (bs.map B8).toArray).formed Try.prog 38 = true := by
    simp [Value.formed, Try.underlying38, Try.cells38, hl]
  have hk' : Try.prog.keyLits 2 38 (Value.agg (bs.map B8).toArray).cells.toList = some l := by simpa [Value.cells] using hk
  obtain ⟨r, hr, hiff⟩ := run_equalIn_deep (P := Try.prog) 9998 2 38 (by kernel_rfl) w 2 2 _ _ l l hf hf hk' hk'
  rw [hr, hiff.2 rfl]
end Go.Proofs.Ytepafpnpmpijeaa
