
import Derived.Test.YtepafpnpmpijeaaK12Map
import Derived.Test.YtepafpnpmpijeaaK12New
import Derived.Test.YtepafpnpmpijeaaK12Ref3
import Derived.Test.YtepafpnpmpijeaaK12Nums
/-! The code's ring in memory; its Has. (Over a stand-in: a map of bytes by number.) -/
namespace Go.Proofs.Ytepafpnpmpijeaa
open Go.RowKit
set_option linter.unusedVariables false

theorem kmT : MpT 52 36 (.slice none 0 0) := ⟨Try.underlying52, fun w => by kernel_rfl⟩

/-- The code's ring, in blocks from N on and below M. -/
structure KgO (N M : Nat) (w : World) (g b : Nat) (vs : List Value) (l : Secs) : Prop where
  row : Row w g 54 [.map (some b)]
  mp : MpAt w b (kvs l vs)
  len : vs.length = l.length
  lo : N ≤ g ∧ g < M ∧ N ≤ b ∧ b < M
  sz : M ≤ w.heap.size
  bytes : ∀ i, i < l.length → ∃ q c, vs.getD i undef = .slice (some ⟨q, 0, none⟩) (l.getD i (0, [])).2.length c ∧ IsB w (some ⟨q, 0, none⟩) (l.getD i (0, [])).2 ∧ (l.getD i (0, [])).2.length ≤ c ∧ N ≤ q ∧ q < M
theorem IsB.of_block {w w' : World} {q off : Nat} {m : List By} (h : IsB w (some ⟨q, off, none⟩) m) (hb : w'.heap[q]? = w.heap[q]?) : IsB w' (some ⟨q, off, none⟩) m := by
  rcases h with rfl | ⟨B, o, e, hc⟩
  · exact .inl rfl
  · injection e with e
    injection e with e1 e2
    subst e1 e2
    exact .inr ⟨q, off, rfl, fun j v hj => (World.cell?_of_block (w := w) (by exact hb)).trans (hc j v hj)⟩
theorem KgO.keep {N M : Nat} {w w' : World} {g b : Nat} {vs : List Value} {l : Secs} (h : KgO N M w g b vs l) (hz : w.heap.size ≤ w'.heap.size) (hb : ∀ j, N ≤ j → j < M → w'.heap[j]? = w.heap[j]?) : KgO N M w' g b vs l where
  row := (hb g h.lo.1 h.lo.2.1).trans h.row
  mp := h.mp.of_block (hb b h.lo.2.2.1 h.lo.2.2.2)
  len := h.len
  lo := h.lo
  sz := Nat.le_trans h.sz hz
  bytes i hi := by
    obtain ⟨q, c, e, h1, h2, h3, h4⟩ := h.bytes i hi
    exact ⟨q, c, e, h1.of_block (hb q h3 h4), h2, h3, h4⟩
theorem KgO.below {N M : Nat} {w w' : World} {g b : Nat} {vs : List Value} {l : Secs} (h : KgO N M w g b vs l) (hb : Below w.heap.size w w') : KgO N M w' g b vs l :=
  h.keep hb.size fun j _ hj => hb.block j (Nat.lt_of_lt_of_le hj h.sz)

set_option maxHeartbeats 1000000 in
set_option maxRecDepth 100000 in
theorem chas_any {N M : Nat} {w : World} {g b : Nat} {vs : List Value} {l : Secs} (h : KgO N M w g b vs l) (key : Int) :
    Calls Try.prog 14 #[.pointer (some ⟨g, 0, none⟩), .int .i64 key] w fun e w' => e = .returned (.bool (fnd l key).isSome) ∧ w' = w := by
  have h0 := h.row.cell 0 _ rfl
  cases hf : fnd l key with
  | none =>
    have q := look_none kmT h.mp key (kvs_none key l vs h.len (by rw [hf]; rfl))
    clear h hf
    go_enter Try.func14, Try.ntmps14
    go_wp2
    go_ret
    exact ⟨rfl, rfl⟩
  | some i =>
    have q := look_some kmT h.mp key (vs.getD i undef) (by rw [kvs_find key l vs h.len, hf]; rfl)
    clear h hf
    generalize vs.getD i undef = v at q
    go_enter Try.func14, Try.ntmps14
    go_wp2
    go_ret
    exact ⟨rfl, rfl⟩

/-- What New answers. -/
def CNewPost (l : Secs) (w : World) (e : Ending) (w' : World) : Prop := Below w.heap.size w w' ∧ ((∃ (er : Int) (i : Nat), newE l = some (er, i) ∧ e = .returned (.tuple #[.pointer none, .int .i64 er, .int .i64 i])) ∨
  newE l = none ∧ ∃ g b vs, e = .returned (.tuple #[.pointer (some ⟨g, 0, none⟩), .int .i64 0, .int .i64 0]) ∧ KgO w.heap.size w'.heap.size w' g b vs l)

end Go.Proofs.Ytepafpnpmpijeaa
