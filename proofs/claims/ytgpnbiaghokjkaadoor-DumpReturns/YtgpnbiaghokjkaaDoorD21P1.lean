import Derived.Test.YtgpnbiaghokjkaaDoorD21Print
import Derived.Shelf.Strconv.AppendIntPublic10
import Derived.Lib.SmallJoins
import Derived.Lib.OwnKind
/-! Layer 21, the landed code: numbers in digits (strconv.AppendInt), laid at this program. (The table of numbers and its rows are printed by tools/laysai.py.) -/
namespace Go.Proofs.YtgpnbiaghokjkaaDoor
open Go.RowKit
set_option linter.unusedVariables false
set_option linter.unusedSimpArgs false
set_option maxRecDepth 100000

def Tryd.laysAI_ren : Go.Shelf.Ren := ⟨fun | 176 => 64 | 249 => 75 | 288 => 80 | 283 => 83 | 284 => 84 | 285 => 85 | 286 => 86 | 129 => 88 | 317 => 87 | 318 => 89 | 319 => 90 | 320 => 91 | 337 => 92 | 338 => 93 | n => n, fun | 37 => 49 | 2 => 2 | 3 => 3 | 53 => 114 | 4 => 4 | 9 => 9 | 171 => 116 | 0 => 0 | 173 => 119 | 212 => 123 | 51 => 124 | 5 => 5 | 20 => 20 | 213 => 125 | 46 => 87 | 232 => 55 | 233 => 129 | n => n, fun | 17 => 1 | 18 => 2 | 19 => 3 | n => n⟩
theorem Tryd.laysAI : Go.Proofs.LaysM.n176 Tryd.prog Tryd.laysAI_ren where
  mixed := by kernel_rfl
  f129 := Tryd.func88.trans (congrArg some (by kernel_rfl))
  f176 := Tryd.func64.trans (congrArg some (by kernel_rfl))
  f249 := Tryd.func75.trans (congrArg some (by kernel_rfl))
  f283 := Tryd.func83.trans (congrArg some (by kernel_rfl))
  f284 := Tryd.func84.trans (congrArg some (by kernel_rfl))
  f285 := Tryd.func85.trans (congrArg some (by kernel_rfl))
  f286 := Tryd.func86.trans (congrArg some (by kernel_rfl))
  f288 := Tryd.func80.trans (congrArg some (by kernel_rfl))
  f317 := Tryd.func87.trans (congrArg some (by kernel_rfl))
  f318 := Tryd.func89.trans (congrArg some (by kernel_rfl))
  f319 := Tryd.func90.trans (congrArg some (by kernel_rfl))
  f320 := Tryd.func91.trans (congrArg some (by kernel_rfl))
  f337 := Tryd.func92.trans (congrArg some (by kernel_rfl))
  f338 := Tryd.func93.trans (congrArg some (by kernel_rfl))
  t0 := Tryd.underlying0
  a0 := Tryd.isAgg0
  z0 := Tryd.sizeOf0
  v0 := Tryd.zeroValue0
  t2 := Tryd.underlying2
  a2 := Tryd.isAgg2
  z2 := Tryd.sizeOf2
  v2 := Tryd.zeroValue2
  t3 := Tryd.underlying3
  a3 := Tryd.isAgg3
  z3 := Tryd.sizeOf3
  v3 := Tryd.zeroValue3
  t4 := Tryd.underlying4
  a4 := Tryd.isAgg4
  z4 := Tryd.sizeOf4
  v4 := Tryd.zeroValue4
  t5 := Tryd.underlying5
  a5 := Tryd.isAgg5
  z5 := Tryd.sizeOf5
  v5 := Tryd.zeroValue5
  t9 := Tryd.underlying9
  a9 := Tryd.isAgg9
  z9 := Tryd.sizeOf9
  v9 := Tryd.zeroValue9
  t20 := Tryd.underlying20
  a20 := Tryd.isAgg20
  z20 := Tryd.sizeOf20
  v20 := Tryd.zeroValue20
  t37 := Tryd.underlying49
  a37 := Tryd.isAgg49
  z37 := Tryd.sizeOf49
  v37 := Tryd.zeroValue49
  t46 := Tryd.underlying87
  a46 := Tryd.isAgg87
  z46 := Tryd.sizeOf87
  v46 := Tryd.zeroValue87
  t51 := Tryd.underlying124
  a51 := Tryd.isAgg124
  z51 := Tryd.sizeOf124
  v51 := Tryd.zeroValue124
  t53 := Tryd.underlying114
  a53 := Tryd.isAgg114
  z53 := Tryd.sizeOf114
  v53 := Tryd.zeroValue114
  t171 := Tryd.underlying116
  a171 := Tryd.isAgg116
  z171 := Tryd.sizeOf116
  v171 := Tryd.zeroValue116
  t173 := Tryd.underlying119
  a173 := Tryd.isAgg119
  z173 := Tryd.sizeOf119
  v173 := Tryd.zeroValue119
  t212 := Tryd.underlying123
  a212 := Tryd.isAgg123
  z212 := Tryd.sizeOf123
  v212 := Tryd.zeroValue123
  t213 := Tryd.underlying125
  a213 := Tryd.isAgg125
  z213 := Tryd.sizeOf125
  t232 := Tryd.underlying55
  a232 := Tryd.isAgg55
  z232 := Tryd.sizeOf55
  v232 := Tryd.zeroValue55
  t233 := Tryd.underlying129
  a233 := Tryd.isAgg129
  z233 := Tryd.sizeOf129
  v233 := Tryd.zeroValue129
  g17 := by kernel_rfl
  g18 := by kernel_rfl
  g19 := by kernel_rfl
  i0 := by kernel_rfl
  i2 := by kernel_rfl
  i3 := by kernel_rfl
  i4 := by kernel_rfl
  i5 := by kernel_rfl
  i9 := by kernel_rfl
  i20 := by kernel_rfl
  i37 := by kernel_rfl
  i46 := by kernel_rfl
  i51 := by kernel_rfl
  i53 := by kernel_rfl
  i171 := by kernel_rfl
  i173 := by kernel_rfl
  i212 := by kernel_rfl
  i232 := by kernel_rfl
  i233 := by kernel_rfl
  m17 := by kernel_rfl
  m18 := by kernel_rfl
  m19 := by kernel_rfl

theorem dec_num : ∀ (k u : Nat), u < 10 ^ (k + 1) → Lib.byteCells (Lib.decDigits u) = (numF k u).map B8
  | 0, u, h => by
    have h' : u < 10 := by simpa using h
    rw [Lib.decDigits, dif_pos h', numF]
    unfold Lib.byteCells
    show [Value.int .u8 _] = [B8 (dg u)]
    unfold B8 dg
    rw [BitVec.toNat_ofNat, Nat.mod_eq_of_lt h', UInt8.toNat_ofNat']
  | k + 1, u, h => by
    by_cases h' : u < 10
    · rw [Lib.decDigits, dif_pos h', numF, if_pos h']
      unfold Lib.byteCells
      show [Value.int .u8 _] = [B8 (dg u)]
      unfold B8 dg
      rw [BitVec.toNat_ofNat, Nat.mod_eq_of_lt h', UInt8.toNat_ofNat']
    · rw [Lib.decDigits, dif_neg h', numF, if_neg h', Lib.byteCells_append, List.map_append, dec_num k (u / 10) (by rw [Nat.pow_succ] at h; omega)]
      congr 1
theorem itoa_num (n : Nat) (hn : n < 9223372036854775808) : Lib.byteCells (Lib.itoa (n : Int)) = (num n).map B8 := by
  rw [Lib.itoa_nonneg]
  exact dec_num 20 n (by omega)

/-- The table that AppendInt reads. -/
def Tab (w : World) : Prop := Lib.TabIs Tryd.prog w "internal/strconv.uint64pow10" .u64 Lib.pow10Tab
def TabB (N : Nat) (w : World) : Prop := Lib.TabBelow Tryd.prog N w "internal/strconv.uint64pow10" .u64 Lib.pow10Tab
theorem Tab.b {w : World} (h : Tab w) : TabB w.heap.size w := Lib.tabBelow_of_tabIs h
theorem Tab.on {w w' : World} {N : Nat} (h : Tab w) (hb : Below N w w') (hN : w.heap.size ≤ N) : Tab w' := h.b w' (hb.mono hN)
theorem TabB.on {N : Nat} {w w' : World} (h : TabB N w) (hb : Below N w w') : TabB N w' := Lib.TabBelow.on h hb

/-- What the writers leave as it was: all that is older, and all but bytes. -/
def Fr (N : Nat) (w w' : World) : Prop := Below N w w' ∧ Lib.OthersKept 5 none w w'
theorem Fr.refl (N : Nat) (w : World) : Fr N w w := ⟨Below.refl _ _, Lib.OthersKept.refl _ _ _⟩
theorem Fr.trans {N : Nat} {a b c : World} (h : Fr N a b) (k : Fr N b c) : Fr N a c := ⟨h.1.trans k.1, h.2.trans k.2⟩
theorem Fr.alloc {N : Nat} {a w : World} (h : Fr N a w) (hN : N ≤ w.heap.size) (o : Obj) : Fr N a (w.alloc o) := ⟨h.1.alloc hN o, h.2.alloc o⟩
theorem Fr.below {N : Nat} {a w w' : World} (h : Fr N a w) (hb : Below w.heap.size w w') (hN : N ≤ w.heap.size) : Fr N a w' := ⟨h.1.trans (hb.mono hN), h.2.below hb⟩
theorem Fr.row {N : Nat} {w w' : World} (h : Fr N w w') {g T : Nat} {cs : List Value} (hr : Row w g T cs) (hT : T ≠ 5) : Row w' g T cs :=
  h.2 g _ hr (by simp) fun c fz e => by injection e with e1 e2 e3; exact hT e2

set_option maxHeartbeats 1000000 in
theorem appendInt_any (N : Nat) (n : Nat) (hn : n < 9223372036854775808) (v : Value) (m : List By) (w : World) (ho : Own N w v m) (hl : m.length + 21 ≤ 140737488355328) (ht : TabB N w) :
    Calls Tryd.prog 64 #[v, .int .i64 (n : Int), .int .i64 10] w fun e w' => ∃ v', e = .returned v' ∧ Own N w' v' (m ++ num n) ∧ Fr N w w' := by
  have hL : (Lib.itoa (n : Int)).length = (num n).length := by
    have := congrArg List.length (itoa_num n hn)
    rwa [Lib.byteCells_length, List.length_map] at this
  refine (Any.strconv_AppendInt_10 Tryd.laysAI N m.length (n : Int) (by omega) (by omega) v (m.map B8) w ho.1 ho.2 hl ht).mono ?_
  rintro e w' ⟨v', rfl, h1, h2, h3⟩
  refine ⟨v', rfl, ⟨?_, Nat.le_trans ho.2 h2.size⟩, h2, h3⟩
  rw [itoa_num n hn, hL] at h1
  rw [List.length_append, List.map_append]
  exact h1
end Go.Proofs.YtgpnbiaghokjkaaDoor
