
import Derived.Test.YtngfdofjflmhhaaC4Low
import Derived.StillTailTactics
/-! The code's chip: Read, Program. -/
namespace Go.Proofs.Ytngfdofjflmhhaa
open Go.RowKit

theorem low_cut (m was x : By) : was &&& (x ||| ~~~m) = (was &&& ~~~m) ||| ((was &&& x) &&& m) := by
  apply BitVec.eq_of_getLsbD_eq
  intro i hi
  simp only [BitVec.getLsbD_and, BitVec.getLsbD_or, BitVec.getLsbD_not, hi, decide_true, Bool.true_and]
  cases was.getLsbD i <;> cases x.getLsbD i <;> cases m.getLsbD i <;> rfl
theorem low_whole (was x : By) : was &&& (x ||| ~~~255#8) = was &&& x := by
  have : (~~~255#8 : By) = 0#8 := by decide
  rw [this]; simp
theorem low_prog (s : RS) (m was x : List By) (hc : 1 ≤ s.c.cells) (hm : ∀ i : Nat, (i : Int) < 32 * s.c.cells → bitsAt m i = if s.cut then bitsAt s.mask i else 255#8) : lowCell m was x = progCell s.cut s.mask was x := by
  unfold lowCell progCell
  apply List.map_congr_left
  intro i hi
  rw [List.mem_range] at hi
  rw [hm i (by omega)]
  unfold progByte
  cases s.cut
  · exact low_whole _ _
  · exact low_cut _ _ _

theorem KeptL.sub {L L' : List Nat} {w w' : World} (h : KeptL L w w') (hs : ∀ b ∈ L, b ∈ L') : KeptL L' w w' :=
  ⟨h.os, h.tape, h.output, h.size, fun k hk hn => h.block k hk (fun hm => hn (hs k hm))⟩

def CPost (F : RF) (s' : RS) (r : Int) (w : World) (e : Ending) (w' : World) : Prop := e = .returned (.int .i64 r) ∧ (∃ S', CAt w' F s' S') ∧ KeptL F.blocks w w'

/-- A cell of a page, laid over. -/
theorem putAt_cell (pg : List (List By)) (rst : List Value) (c : Nat) (x : List By) (h8 : ∀ y ∈ pg, y.length = 32) (hc : c < pg.length) (hx : x.length = 32) : putAt (pg.flatten.map B8 ++ rst) (c * 32) (x.map B8) = (pg.set c x).flatten.map B8 ++ rst := by
  have key : ∀ (l : List (List By)) (c : Nat), (∀ y ∈ l, y.length = 32) → c < l.length → l.flatten.take (c * 32) ++ x ++ l.flatten.drop (c * 32 + 32) = (l.set c x).flatten := by
    intro l
    induction l with
    | nil => intro c _ h; simp at h
    | cons y l ih =>
      intro c h h2
      have hy := h y (by simp)
      cases c with
      | zero => rw [List.flatten_cons, Nat.zero_mul, List.take_zero, List.nil_append, Nat.zero_add, List.drop_left' hy, List.set_cons_zero, List.flatten_cons]
      | succ c =>
        have := ih c (fun z hz => h z (by simp [hz])) (by simpa using h2)
        rw [List.flatten_cons, List.set_cons_succ, List.flatten_cons, ← this]
        rw [show (c + 1) * 32 = y.length + c * 32 by omega, Nat.add_assoc, List.take_append, List.drop_append, List.take_of_length_le (by omega), List.drop_eq_nil_of_le (by omega), show y.length + c * 32 - y.length = c * 32 by omega, show y.length + (c * 32 + 32) - y.length = c * 32 + 32 by omega]
        simp
  unfold putAt
  have hfl := flat_len pg h8
  rw [List.length_map, hx, List.take_append_of_le_length (by rw [List.length_map, hfl]; omega), List.drop_append_of_le_length (by rw [List.length_map, hfl]; omega), ← List.map_take, ← List.map_drop, ← List.append_assoc, ← List.map_append, ← List.map_append, key pg c h8 hc]

end Go.Proofs.Ytngfdofjflmhhaa
