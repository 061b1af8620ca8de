import Derived.Test.YtdfbfheceobboaaDoorP25Mo
import Derived.Test.YtdfbfheceobboaaDoorP25To

/-! The law of layer 25: what is asked of the code; is. -/
namespace Go.Proofs.YtdfbfheceobboaaDoor
open Go.RowKit
set_option linter.unusedVariables false

/-- What a patch says of itself, as the program has it. -/
def infoC (x : PX) : List Value := x.old.map B8 ++ x.new.map B8 ++ [.int .i64 (x.before : Int), .int .i64 (x.after : Int), .int .i64 (x.l.length : Int), .int .i64 (laidN x.l : Int)]
def zX : PX := ⟨z32b, z32b, 0, 0, []⟩
/-- An error in memory: an error's number, its place. -/
def ErrV (W : World) (k a : Nat) (v : Value) : Prop := ∃ g, v = .iface 48 (.pointer (some ⟨g, 0, none⟩)) ∧ Row W g 52 [.int .i64 (k : Int), .int .i64 (a : Int)]
theorem ErrV.keep {W W2 : World} {k a : Nat} {v : Value} (h : ErrV W k a v) (hb : Below W.heap.size W W2) : ErrV W2 k a v := by
  obtain ⟨g, e, hr⟩ := h
  exact ⟨g, e, hr.below hb hr.lt⟩
/-- Bytes that can be read. -/
structure BV (W : World) (v : Value) (m : List By) : Prop where
  eq : ∃ ao c, v = .slice ao m.length c ∧ IsB W ao m ∧ (ao = none → c = 0) ∧ m.length ≤ c
def CRd (w : World) (p : List By) (e : Ending) (w' : World) : Prop :=
  Below w.heap.size w w' ∧ match readR p with
    | .error (k, a) => ∃ v, e = .returned (.tuple #[.agg (infoC zX).toArray, v]) ∧ ErrV w' k a v
    | .ok x => e = .returned (.tuple #[.agg (infoC x).toArray, .nilIface])
def CAp (w : World) (old p : List By) (e : Ending) (w' : World) : Prop :=
  Below w.heap.size w w' ∧ match applyR old p with
    | .error (k, a) => ∃ b v, e = .returned (.tuple #[b, v]) ∧ BV w' b [] ∧ ErrV w' k a v
    | .ok m => ∃ b, e = .returned (.tuple #[b, .nilIface]) ∧ BV w' b m
def CMk (M : List By → List By → List By) (w : World) (old new : List By) (e : Ending) (w' : World) : Prop :=
  Below w.heap.size w w' ∧ ∃ b, BV w' b (if old.length ≤ 524288 ∧ new.length ≤ 524288 then M old new else []) ∧ e = .returned (.tuple #[b, .int .i64 (if old.length ≤ 524288 ∧ new.length ≤ 524288 then 0 else 4)])
def CJo (J : List By → List By → List By) (w : World) (p q : List By) (e : Ending) (w' : World) : Prop :=
  Below w.heap.size w w' ∧ match joinsR p q with
    | .error (k, a) => ∃ b v, e = .returned (.tuple #[b, v]) ∧ BV w' b [] ∧ ErrV w' k a v
    | .ok (x, y) => ∃ b, e = .returned (.tuple #[b, .nilIface]) ∧ BV w' b (J p q)
/-- The code's contracts: M what Make makes, J what Join joins. -/
structure Pch (M J : List By → List By → List By) : Prop where
  read : ∀ (w : World) (po : Option Addr) (n pc : Nat) (p : List By), HG w → p.length = n → n ≤ 140737488351232 → n ≤ pc → (po = none → pc = 0) → IsB w po p → Calls Tryd.prog 17 #[.slice po n pc] w (CRd w p)
  apply : ∀ (w : World) (ao : Option Addr) (n c : Nat) (old : List By) (po : Option Addr) (pn pc : Nat) (p : List By), HG w → old.length = n → n ≤ 140737488351232 → n ≤ c → (ao = none → c = 0) → IsB w ao old → p.length = pn → pn ≤ 140737488351232 → pn ≤ pc → (po = none → pc = 0) → IsB w po p →
    Calls Tryd.prog 6 #[.slice ao n c, .slice po pn pc] w (CAp w old p)
  make : ∀ (w : World) (ao : Option Addr) (n c : Nat) (old : List By) (po : Option Addr) (pn pc : Nat) (new : List By), HG w → old.length = n → n ≤ 140737488351232 → n ≤ c → (ao = none → c = 0) → IsB w ao old → new.length = pn → pn ≤ 140737488351232 → pn ≤ pc → (po = none → pc = 0) → IsB w po new →
    Calls Tryd.prog 5 #[.slice ao n c, .slice po pn pc] w (CMk M w old new)
  join : ∀ (w : World) (ao : Option Addr) (n c : Nat) (p : List By) (po : Option Addr) (pn pc : Nat) (q : List By), HG w → p.length = n → n ≤ 140737488351232 → n ≤ c → (ao = none → c = 0) → IsB w ao p → q.length = pn → pn ≤ 140737488351232 → pn ≤ pc → (po = none → pc = 0) → IsB w po q →
    Calls Tryd.prog 7 #[.slice ao n c, .slice po pn pc] w (CJo J w p q)
  made : ∀ old new, old.length ≤ 524288 → new.length ≤ 524288 → ∃ x, readR (M old new) = .ok x ∧ x.before = old.length ∧ x.after = new.length ∧ x.old = sha old ∧ x.new = sha new ∧ tells x.l old = new ∧ (M old new).length ≤ mostN old new
  joined : ∀ p q x y, joinsR p q = .ok (x, y) → ∃ z, readR (J p q) = .ok z ∧ z.old = x.old ∧ z.before = x.before ∧ z.new = y.new ∧ z.after = y.after ∧ (J p q).length ≤ 100000000 ∧ ∀ old, old.length = x.before → tells z.l old = tells y.l (tells x.l old)

set_option maxHeartbeats 1000000 in
set_option maxRecDepth 100000 in
theorem is_nil (w : World) : Calls Tryd.prog 18 #[.nilIface, .agg #[.int .i64 0, .int .i64 0]] w fun e w' => e = .returned (.bool true) ∧ Below w.heap.size w w' := by
  obtain ⟨w1, hw1⟩ : ∃ w1, w1 = w.alloc (.cells #[.int .i64 0, .int .i64 0] 60) := ⟨_, rfl⟩
  have r1 : Row w1 w.heap.size 60 [.int .i64 0, .int .i64 0] := by rw [hw1]; exact Row.at w _ _ _ _ rfl rfl
  have b1 : Below w.heap.size w w1 := by rw [hw1]; exact (Below.refl _ _).alloc (Nat.le_refl _) _
  have TL := told_nil w1
  rw [hw1] at TL
  go_enter Tryd.func18, Tryd.ntmps18
  go_wp2_with fail
  refine TL.mono ?_
  rw [← hw1]
  clear TL hw1
  rintro e w2 ⟨rfl, hb2⟩
  have r2 : Hid (Row (w2.alloc (.cells #[.int .i64 0, .int .i64 0] 60)) w.heap.size 60 [.int .i64 0, .int .i64 0]) := (r1.below hb2 r1.lt).alloc _
  have B2 : Hid (Below w.heap.size w w2) := b1.trans (hb2.mono b1.size)
  have hlt : w.heap.size < w2.heap.size := Nat.lt_of_lt_of_le r1.lt hb2.size
  dsimp only
  clear r1 b1 hb2
  go_wp2_with (refine wpList_store_Row rfl 60 (.tmp 5) (.tmp 10) rfl w2.heap.size 60 0 [.int .i64 0, .int .i64 0] [.int .i64 0, .int .i64 0] (Row.at w2 _ _ _ _ rfl rfl) (Nat.le_refl _) rfl rfl (by kernel_rfl) (wr2_one _ _) ?_; intro w3 hr3 hs3; have r5 := row_whole hr3 (Nat.le_refl _); have c50 := r5.cell 0 _ rfl; have c51 := r5.cell 1 _ rfl; have r3 := r2.out.but hs3 (by omega); have c30 := r3.cell 0 _ rfl; have c31 := r3.cell 1 _ rfl; have B3 : Hid (Below w.heap.size w w3) := hs3.below (B2.out.alloc B2.out.size _) B2.out.size; clear hr3 hs3 r5 r3 r2 B2)
  go_ret
  exact ⟨rfl, B3.out⟩

set_option maxHeartbeats 1000000 in
set_option maxRecDepth 100000 in
theorem is_wrong (w : World) (hg : HG w) (k a : Nat) (hk : k ≠ 0) (v : Value) (hv : ErrV w k a v) : Calls Tryd.prog 18 #[v, .agg #[.int .i64 (k : Int), .int .i64 (a : Int)]] w fun e w' => e = .returned (.bool true) ∧ Below w.heap.size w w' := by
  obtain ⟨g, rfl, hr⟩ := hv
  obtain ⟨w1, hw1⟩ : ∃ w1, w1 = w.alloc (.cells #[.int .i64 (k : Int), .int .i64 (a : Int)] 60) := ⟨_, rfl⟩
  have r1 : Row w1 w.heap.size 60 [.int .i64 (k : Int), .int .i64 (a : Int)] := by rw [hw1]; exact Row.at w _ _ _ _ rfl rfl
  have b1 : Below w.heap.size w w1 := by rw [hw1]; exact (Below.refl _ _).alloc (Nat.le_refl _) _
  have TL := told_wrong g (k : Int) (a : Int) w1 (hg.below b1 hg.lt) (hr.below b1 hr.lt) (by omega)
  rw [hw1] at TL
  clear hr hg
  go_enter Tryd.func18, Tryd.ntmps18
  go_wp2_with fail
  refine TL.mono ?_
  rw [← hw1]
  clear TL hw1
  rintro e w2 ⟨rfl, hb2⟩
  have r2 : Hid (Row (w2.alloc (.cells #[.int .i64 0, .int .i64 0] 60)) w.heap.size 60 [.int .i64 (k : Int), .int .i64 (a : Int)]) := (r1.below hb2 r1.lt).alloc _
  have B2 : Hid (Below w.heap.size w w2) := b1.trans (hb2.mono b1.size)
  have hlt : w.heap.size < w2.heap.size := Nat.lt_of_lt_of_le r1.lt hb2.size
  dsimp only
  clear r1 b1 hb2
  go_wp2_with (refine wpList_store_Row rfl 60 (.tmp 5) (.tmp 10) rfl w2.heap.size 60 0 [.int .i64 0, .int .i64 0] [.int .i64 (k : Int), .int .i64 (a : Int)] (Row.at w2 _ _ _ _ rfl rfl) (Nat.le_refl _) rfl rfl (by kernel_rfl) (wr2_one _ _) ?_; intro w3 hr3 hs3; have r5 := row_whole hr3 (Nat.le_refl _); have c50 := r5.cell 0 _ rfl; have c51 := r5.cell 1 _ rfl; have r3 := r2.out.but hs3 (by omega); have c30 := r3.cell 0 _ rfl; have c31 := r3.cell 1 _ rfl; have B3 : Hid (Below w.heap.size w w3) := hs3.below (B2.out.alloc B2.out.size _) B2.out.size; clear hr3 hs3 r5 r3 r2 B2)
  go_ret
  exact ⟨rfl, B3.out⟩
end Go.Proofs.YtdfbfheceobboaaDoor


/-! The law of layer 25: same. (Printed by tools/genlw25.py.) -/
namespace Go.Proofs.YtdfbfheceobboaaDoor
open Go.RowKit
set_option linter.unusedVariables false

theorem infoC_one (x : PX) : ∀ v ∈ infoC x, v.oneCell' = true := by
  intro v hv
  simp only [infoC, List.mem_append, List.mem_cons, List.not_mem_nil, or_false] at hv
  rcases hv with (hv | hv) | rfl | rfl | rfl | rfl
  · exact B8_one x.old v hv
  · exact B8_one x.new v hv
  all_goals rfl
section
variable {W1 : World} {gi gp bf af ln lc ld : Nat} {lo : Option Addr} {OH NH C : List Value} {L : Nat → Bool} {x5 x6 x7 x8 x9 x10 x11 x12 x13 x14 x15 x16 x17 x18 x19 x20 x21 x22 x23 x24 x25 x26 x27 x28 x29 x30 x31 x32 x33 x34 x35 x36 x37 x38 x39 x40 x41 x42 x43 x44 x45 x4 : Value} {W W2 : World}
end
end Go.Proofs.YtdfbfheceobboaaDoor
