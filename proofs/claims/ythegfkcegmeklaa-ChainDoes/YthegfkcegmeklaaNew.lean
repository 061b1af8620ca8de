
import Derived.Test.YthegfkcegmeklaaComp
import Derived.Test.YthegfkcegmeklaaRefOf
namespace Go.Proofs.Ythegfkcegmeklaa
open Go.RowKit

/-- A Digest's cells: the state, the bytes that don't make a piece yet, the count of all bytes. -/
def digCells (s : S8) (p : List By) (n : Nat) : List Value := s.list.map U ++ (p.map B8 ++ [.int .u64 (n : Int)])

set_option maxHeartbeats 1000000 in
set_option maxRecDepth 100000 in
theorem new_any (w : World) : Calls Try.prog 43 #[] w fun e w' => ∃ g, e = .returned (.pointer (some ⟨g, 0, none⟩)) ∧ w.heap.size ≤ g ∧ Row w' g 95 (digCells init8 (List.replicate 64 0) 0) ∧ Below w.heap.size w w' := by
  go_enter Try.func43, Try.ntmps43
  go_wp2_with fail
  refine (firstState_any _).mono ?_
  rintro e w1 ⟨rfl, hb1⟩
  have e0 : (init8.list.map U).toArray = #[.int .u32 1779033703, .int .u32 3144134277, .int .u32 1013904242, .int .u32 2773480762, .int .u32 1359893119, .int .u32 2600822924, .int .u32 528734635, .int .u32 1541459225] := rfl
  rw [e0]
  clear e0
  have hz : ∀ w : World, (zeroValue 95).run Try.prog w = .ok (.agg #[.int .u32 0, .int .u32 0, .int .u32 0, .int .u32 0, .int .u32 0, .int .u32 0, .int .u32 0, .int .u32 0, .int .u8 0, .int .u8 0, .int .u8 0, .int .u8 0, .int .u8 0, .int .u8 0, .int .u8 0, .int .u8 0, .int .u8 0, .int .u8 0, .int .u8 0, .int .u8 0, .int .u8 0, .int .u8 0, .int .u8 0, .int .u8 0, .int .u8 0, .int .u8 0, .int .u8 0, .int .u8 0, .int .u8 0, .int .u8 0, .int .u8 0, .int .u8 0, .int .u8 0, .int .u8 0, .int .u8 0, .int .u8 0, .int .u8 0, .int .u8 0, .int .u8 0, .int .u8 0, .int .u8 0, .int .u8 0, .int .u8 0, .int .u8 0, .int .u8 0, .int .u8 0, .int .u8 0, .int .u8 0, .int .u8 0, .int .u8 0, .int .u8 0, .int .u8 0, .int .u8 0, .int .u8 0, .int .u8 0, .int .u8 0, .int .u8 0, .int .u8 0, .int .u8 0, .int .u8 0, .int .u8 0, .int .u8 0, .int .u8 0, .int .u8 0, .int .u8 0, .int .u8 0, .int .u8 0, .int .u8 0, .int .u8 0, .int .u8 0, .int .u8 0, .int .u8 0, .int .u64 0]) w := fun _ => by kernel_rfl
  go_wp2
  go_ret
  exact ⟨_, rfl, hb1.size, Row.at _ _ _ _ _ rfl rfl, hb1.alloc hb1.size _⟩
end Go.Proofs.Ythegfkcegmeklaa
