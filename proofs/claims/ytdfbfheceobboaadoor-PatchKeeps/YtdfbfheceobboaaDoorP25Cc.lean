import Derived.Test.YtdfbfheceobboaaDoorP25T

/-! The code's patch: numbers, read and put. -/
namespace Go.Proofs.YtdfbfheceobboaaDoor
open Go.RowKit
set_option linter.unusedVariables false
set_option linter.unusedSimpArgs false
set_option maxRecDepth 100000

def numTo (p : List By) : Nat → Nat
  | 0 => 0
  | k + 1 => numTo p k + (p.getD k 0).toNat * 2 ^ (8 * k)
theorem numTo_lt (p : List By) : ∀ k, numTo p k < 2 ^ (8 * k)
  | 0 => by simp [numTo]
  | k + 1 => by
    have h := numTo_lt p k
    have hb := (p.getD k 0).isLt
    rw [numTo, show 8 * (k + 1) = 8 * k + 8 by omega, Nat.pow_add]
    have h2 : (p.getD k 0).toNat * 2 ^ (8 * k) ≤ 255 * 2 ^ (8 * k) := Nat.mul_le_mul_right _ (by omega)
    omega
theorem or_num (p : List By) (k : Nat) (hk : k < 8) : bits .or .u64 (numTo p k : Int) ((((p.getD k 0).toNat : Nat) : Int) * 2 ^ (8 * k) % 18446744073709551616) = (numTo p (k + 1) : Int) := by
  have h0 := numTo_lt p k
  have h1 := numTo_lt p (k + 1)
  have hb := (p.getD k 0).isLt
  have hx : (p.getD k 0).toNat * 2 ^ (8 * k) < 18446744073709551616 := by
    have h2 : (p.getD k 0).toNat * 2 ^ (8 * k) ≤ numTo p (k + 1) := by rw [numTo]; omega
    have h3 : 2 ^ (8 * (k + 1)) ≤ 2 ^ 64 := Nat.pow_le_pow_right (by omega) (by omega)
    have h4 : (2 : Nat) ^ 64 = 18446744073709551616 := rfl
    omega
  have ha : numTo p k < 18446744073709551616 := by
    have h3 : 2 ^ (8 * k) ≤ 2 ^ 64 := Nat.pow_le_pow_right (by omega) (by omega)
    have h4 : (2 : Nat) ^ 64 = 18446744073709551616 := rfl
    omega
  have e1 : ((((p.getD k 0).toNat : Nat) : Int) * 2 ^ (8 * k) % 18446744073709551616) = (((p.getD k 0).toNat * 2 ^ (8 * k) : Nat) : Int) := by
    rw [show ((((p.getD k 0).toNat : Nat) : Int) * 2 ^ (8 * k)) = (((p.getD k 0).toNat * 2 ^ (8 * k) : Nat) : Int) by simp [Int.natCast_mul, Int.natCast_pow]]
    omega
  rw [e1]
  have e2 : numTo p k ||| (p.getD k 0).toNat * 2 ^ (8 * k) = numTo p (k + 1) := by
    rw [numTo, Nat.or_comm, ← Nat.shiftLeft_eq, ← Nat.shiftLeft_add_eq_or_of_lt h0, Nat.add_comm]
  generalize (p.getD k 0).toNat * 2 ^ (8 * k) = y at *
  show IntKind.u64.wrap ((BitVec.ofInt 64 (numTo p k : Int) ||| BitVec.ofInt 64 (y : Int)).toNat : Int) = _
  have e3 : (BitVec.ofInt 64 (numTo p k : Int) ||| BitVec.ofInt 64 (y : Int)).toNat = numTo p (k + 1) := by
    rw [BitVec.toNat_or]
    have q1 : (BitVec.ofInt 64 (numTo p k : Int)).toNat = numTo p k := by rw [BitVec.toNat_ofInt]; omega
    have q2 : (BitVec.ofInt 64 (y : Int)).toNat = y := by rw [BitVec.toNat_ofInt]; omega
    rw [q1, q2, e2]
  rw [e3]
  have : numTo p (k + 1) < 18446744073709551616 := by
    rw [← e3]; exact (BitVec.isLt _)
  simp [IntKind.wrap, IntKind.bits, IntKind.signed]
  omega

theorem wrapU64 (z : Int) : IntKind.u64.wrap z = z % 18446744073709551616 := by simp [IntKind.wrap, IntKind.bits, IntKind.signed]
theorem numTo_4 (p : List By) : numTo p 4 = num4 p := by simp [numTo, num4]
set_option maxHeartbeats 1000000 in
theorem cnum_any (B off n cap : Nat) (p : List By) (at_ : Nat) (w : World) (hn : p.length = n) (ha : at_ + 4 ≤ n) (hc : n ≤ cap) (hm : n ≤ 140737488351232) (hp : IsB w (some ⟨B, off, none⟩) p) :
    Calls Tryd.prog 48 #[.slice (some ⟨B, off, none⟩) n cap, .int .i64 (at_ : Int)] w fun e w' => e = .returned (.int .u64 (num4 (p.drop at_) : Int)) ∧ w' = w := by
  have HB : Hid (∀ j, j < 4 → w.cell? ⟨B, off + at_ + j, none⟩ = some (.int .u8 (((p.drop at_).getD j 0).toNat : Int))) := fun j hj => by
    rcases hp with rfl | ⟨B', off', e, h⟩
    · simp at hn; omega
    · injection e with e; injection e with e1 e2; subst e1; subst e2
      have hl : at_ + j < p.length := by omega
      have := h (at_ + j) p[at_ + j] (List.getElem?_eq_getElem hl)
      rw [← Nat.add_assoc] at this
      rw [this]
      have e : (p.drop at_).getD j 0 = p[at_ + j] := by
        rw [List.getD_eq_getElem?_getD, List.getElem?_drop, List.getElem?_eq_getElem hl]; rfl
      rw [e]; rfl
  have z1 : IntKind.i64.wrap ((at_ : Int) + 4) = (at_ : Int) + 4 := i64_in _ (by omega) (by omega)
  have y0 : (0 : Int) ≤ (at_ : Int) := by omega
  have y1 : (at_ : Int) ≤ (at_ : Int) + 4 := by omega
  have y2 : (at_ : Int) + 4 ≤ (cap : Int) := by omega
  have y3 : ¬ cap = at_ := by omega
  have HF : Hid (numTo (p.drop at_) 4 = num4 (p.drop at_)) := numTo_4 _
  generalize p.drop at_ = q at *
  clear hp hn ha hc hm
  go_enter Tryd.func48, Tryd.ntmps48
  go_wp2
  go_loopw [5, 6, 7, 14] (fun nv u6 u7 iv wr => ∃ i : Nat, i ≤ 4 ∧ nv = .int .u64 (numTo q i) ∧ iv = .int .i64 i ∧ wr = w) (fun _ _ _ iv _ => 4 - (intOf iv).toNat)
  case atStart => exact ⟨0, by omega, rfl, rfl, rfl⟩
  case round =>
    obtain ⟨i, hi, rfl, rfl, rfl⟩ := hrel
    by_cases hlt : i < 4
    · have x0 : (0 : Int) ≤ (i : Int) := by omega
      have x1 : (i : Int) < 4 := by omega
      have z2 : IntKind.i64.wrap (8 * (i : Int)) = 8 * (i : Int) := i64_in _ (by omega) (by omega)
      have c := HB.out i hlt
      have HO : Hid (bits .or .u64 (numTo q i : Int) ((((q.getD i 0).toNat : Nat) : Int) * 2 ^ (8 * i) % 18446744073709551616) = (numTo q (i + 1) : Int)) := or_num q i (by omega)
      have ho := HO.out
      go_wp2
      exact ⟨⟨i + 1, by omega, by rw [wrapU64]; exact congrArg _ ho, by go_num, by first | rfl | trivial⟩, by simp [intOf]; omega⟩
    · obtain rfl : i = 4 := by omega
      have x1 : ¬ ((4 : Nat) : Int) < 4 := by omega
      go_wp2
      go_ret
      exact ⟨by rw [← HF.out]; rfl, rfl⟩
/-- What is answered by calls that put bytes behind one's own. -/
def PutP (N : Nat) (ao : Option Addr) (w : World) (n : Nat) (M : List By) (e : Ending) (w' : World) : Prop := ∃ ao' c', e = .returned (.slice ao' n c') ∧ Own N w' (.slice ao' n c') M ∧ Grw N ao ao' w w'
theorem le4_take (k i : Nat) (h : i < 4) : (le4 k).take (i + 1) = (le4 k).take i ++ [BitVec.ofNat 8 (k / 256 ^ i)] := by
  rcases (by omega : i = 0 ∨ i = 1 ∨ i = 2 ∨ i = 3) with rfl | rfl | rfl | rfl <;> simp [le4]
theorem ofNat_mod8 (x : Nat) : ((BitVec.ofNat 8 x : By).toNat : Int) = (x : Int) % 256 := by rw [BitVec.toNat_ofNat]; omega
set_option maxHeartbeats 1000000 in
theorem cputn_any (N : Nat) (ao : Option Addr) (n c : Nat) (m : List By) (k : Nat) (w : World) (hown : Own N w (.slice ao n c) m) (hn : n ≤ 1000000000) (hk : k < 4294967296) :
    Calls Tryd.prog 22 #[.slice ao n c, .int .i64 (k : Int)] w (PutP N ao w (n + 4) (m ++ le4 k)) := by
  have H0 : Hid (Own N w (.slice ao n c) m) := hown
  have HK : Hid (k < 4294967296) := hk
  clear hown hk
  go_enter Tryd.func22, Tryd.ntmps22
  go_wp2
  go_loopw [0, 1, 5] (fun sv kv iv wr => ∃ (i : Nat) (ao' : Option Addr) (c' : Nat), i ≤ 4 ∧ sv = .slice ao' (n + i) c' ∧ kv = .int .i64 ((k / 256 ^ i : Nat) : Int) ∧ iv = .int .i64 i ∧ Hid (Own N wr (.slice ao' (n + i) c') (m ++ (le4 k).take i) ∧ Grw N ao ao' w wr)) (fun _ _ iv _ => 4 - (intOf iv).toNat)
  case atStart => exact ⟨0, ao, c, by omega, rfl, by simp, rfl, by simpa using H0.out, Grw.refl _ _ _⟩
  case round =>
    obtain ⟨i, ao', c', hi, rfl, rfl, rfl, HI⟩ := hrel
    by_cases hlt : i < 4
    · have x0 : (0 : Int) ≤ (i : Int) := by omega
      have x1 : (i : Int) < 4 := by omega
      have z1 : IntKind.i64.wrap ((i : Int) + 1) = (i : Int) + 1 := i64_in _ (by omega) (by omega)
      have HT : Hid ((le4 k).take (i + 1) = (le4 k).take i ++ [BitVec.ofNat 8 (k / 256 ^ i)]) := le4_take k i hlt
      have HV : Hid (((k : Int) / 256 ^ i % 256) = ((BitVec.ofNat 8 (k / 256 ^ i) : By).toNat : Int)) := by
        show _ = _
        rw [ofNat_mod8]; push_cast; rfl
      go_wp2_with (at_builtin; refine wpList_append1_grw rfl (.tmp 7) (.tmp 10) rfl N ao' (n + i) c' _ rfl HI.out.1 wr.heap.size rfl rfl (BitVec.ofNat 8 (k / 256 ^ i)) _ HV.out (by omega) ?_; intro ao2 c2 w2 ho2 hg2; have H2 : Hid (Own N w2 (.slice ao2 (n + i + 1) c2) (m ++ (le4 k).take (i + 1)) ∧ Grw N ao ao2 w w2) := ⟨by rw [HT.out, ← List.append_assoc]; exact ho2, HI.out.2.trans hg2⟩; clear ho2 hg2)
      have e1 : ((k : Int) / 256 ^ i / 256) = ((k / 256 ^ (i + 1) : Nat) : Int) := by
        rw [Nat.pow_succ, ← Nat.div_div_eq_div_mul]; push_cast; rfl
      refine ⟨⟨i + 1, ao2, c2, by omega, rfl, by rw [e1], by go_num, H2⟩, by simp [intOf]; omega⟩
    · obtain rfl : i = 4 := by omega
      have x1 : ¬ ((4 : Nat) : Int) < 4 := by omega
      go_wp2
      go_ret
      exact ⟨ao', c', rfl, HI.out.1, HI.out.2⟩
end Go.Proofs.YtdfbfheceobboaaDoor


/-! The code's patch: whether a part goes on where another one has ended. -/
namespace Go.Proofs.YtdfbfheceobboaaDoor
open Go.RowKit
set_option linter.unusedVariables false
set_option linter.unusedSimpArgs false
set_option maxRecDepth 100000

set_option maxHeartbeats 1000000 in
theorem goes_nil (x : Value) (w : World) : Calls Tryd.prog 41 #[.nilIface, x] w fun e w' => e = .returned (.bool false) ∧ Below w.heap.size w w' := by
  have TA0 : ∀ W, Sem.run Tryd.prog (Instr.typeAssert (.nilIface) 54 66 true) W = .ok (.tuple #[.agg #[.int .i64 0, .int .i64 0], .bool false]) W := fun W => by kernel_rfl
  have TA1 : ∀ W, Sem.run Tryd.prog (Instr.typeAssert (.nilIface) 54 63 true) W = .ok (.tuple #[.agg #[.slice none 0 0], .bool false]) W := fun W => by kernel_rfl
  go_enter Tryd.func41, Tryd.ntmps41
  go_wp2
  go_ret
  refine ⟨?_, ?_⟩
  · first | rfl | (simp; done)
  · repeat first | exact Below.refl _ _ | refine Below.setCell ?_ (by simp) _ | refine Below.alloc ?_ (by simp) _ | refine Below.drew ?_
set_option maxHeartbeats 1000000 in
theorem goes_ss (f n f2 n2 : Nat) (w : World) (h1 : f + n < 4000000000000) (h2 : f2 < 4000000000000) : Calls Tryd.prog 41 #[.iface 66 (.agg #[.int .i64 (f : Int), .int .i64 (n : Int)]), .iface 66 (.agg #[.int .i64 (f2 : Int), .int .i64 (n2 : Int)])] w fun e w' => e = .returned (.bool (decide (f2 = f + n))) ∧ Below w.heap.size w w' := by
  have TA0 : ∀ W, Sem.run Tryd.prog (Instr.typeAssert (.iface 66 (.agg #[.int .i64 (f : Int), .int .i64 (n : Int)])) 54 66 true) W = .ok (.tuple #[.agg #[.int .i64 (f : Int), .int .i64 (n : Int)], .bool true]) W := fun W => by kernel_rfl
  have TA1 : ∀ W, Sem.run Tryd.prog (Instr.typeAssert (.iface 66 (.agg #[.int .i64 (f2 : Int), .int .i64 (n2 : Int)])) 54 66 true) W = .ok (.tuple #[.agg #[.int .i64 (f2 : Int), .int .i64 (n2 : Int)], .bool true]) W := fun W => by kernel_rfl
  have z1 : IntKind.i64.wrap ((f : Int) + (n : Int)) = (f : Int) + (n : Int) := i64_in _ (by omega) (by omega)
  go_enter Tryd.func41, Tryd.ntmps41
  go_wp2
  go_ret
  refine ⟨?_, ?_⟩
  · have e : ((f2 : Int) == (f : Int) + (n : Int)) = decide (f2 = f + n) := by
      rw [Bool.eq_iff_iff]
      simp only [beq_iff_eq, decide_eq_true_eq]
      omega
    simp [e]
  · repeat first | exact Below.refl _ _ | refine Below.setCell ?_ (by simp) _ | refine Below.alloc ?_ (by simp) _ | refine Below.drew ?_
set_option maxHeartbeats 1000000 in
theorem goes_sl (f n : Nat) (bo : Option Addr) (n2 c2 : Nat) (w : World) : Calls Tryd.prog 41 #[.iface 66 (.agg #[.int .i64 (f : Int), .int .i64 (n : Int)]), .iface 63 (.agg #[.slice bo n2 c2])] w fun e w' => e = .returned (.bool false) ∧ Below w.heap.size w w' := by
  have TA0 : ∀ W, Sem.run Tryd.prog (Instr.typeAssert (.iface 66 (.agg #[.int .i64 (f : Int), .int .i64 (n : Int)])) 54 66 true) W = .ok (.tuple #[.agg #[.int .i64 (f : Int), .int .i64 (n : Int)], .bool true]) W := fun W => by kernel_rfl
  have TA1 : ∀ W, Sem.run Tryd.prog (Instr.typeAssert (.iface 63 (.agg #[.slice bo n2 c2])) 54 66 true) W = .ok (.tuple #[.agg #[.int .i64 0, .int .i64 0], .bool false]) W := fun W => by kernel_rfl
  go_enter Tryd.func41, Tryd.ntmps41
  go_wp2
  go_ret
  refine ⟨?_, ?_⟩
  · first | rfl | (simp; done)
  · repeat first | exact Below.refl _ _ | refine Below.setCell ?_ (by simp) _ | refine Below.alloc ?_ (by simp) _ | refine Below.drew ?_
set_option maxHeartbeats 1000000 in
theorem goes_ls (ao : Option Addr) (n c f2 n2 : Nat) (w : World) : Calls Tryd.prog 41 #[.iface 63 (.agg #[.slice ao n c]), .iface 66 (.agg #[.int .i64 (f2 : Int), .int .i64 (n2 : Int)])] w fun e w' => e = .returned (.bool false) ∧ Below w.heap.size w w' := by
  have TA0 : ∀ W, Sem.run Tryd.prog (Instr.typeAssert (.iface 63 (.agg #[.slice ao n c])) 54 66 true) W = .ok (.tuple #[.agg #[.int .i64 0, .int .i64 0], .bool false]) W := fun W => by kernel_rfl
  have TA1 : ∀ W, Sem.run Tryd.prog (Instr.typeAssert (.iface 63 (.agg #[.slice ao n c])) 54 63 true) W = .ok (.tuple #[.agg #[.slice ao n c], .bool true]) W := fun W => by kernel_rfl
  have TA2 : ∀ W, Sem.run Tryd.prog (Instr.typeAssert (.iface 66 (.agg #[.int .i64 (f2 : Int), .int .i64 (n2 : Int)])) 54 63 true) W = .ok (.tuple #[.agg #[.slice none 0 0], .bool false]) W := fun W => by kernel_rfl
  go_enter Tryd.func41, Tryd.ntmps41
  go_wp2
  go_ret
  refine ⟨?_, ?_⟩
  · first | rfl | (simp; done)
  · repeat first | exact Below.refl _ _ | refine Below.setCell ?_ (by simp) _ | refine Below.alloc ?_ (by simp) _ | refine Below.drew ?_
set_option maxHeartbeats 1000000 in
theorem goes_ll (ao : Option Addr) (n c : Nat) (bo : Option Addr) (n2 c2 : Nat) (w : World) : Calls Tryd.prog 41 #[.iface 63 (.agg #[.slice ao n c]), .iface 63 (.agg #[.slice bo n2 c2])] w fun e w' => e = .returned (.bool true) ∧ Below w.heap.size w w' := by
  have TA0 : ∀ W, Sem.run Tryd.prog (Instr.typeAssert (.iface 63 (.agg #[.slice ao n c])) 54 66 true) W = .ok (.tuple #[.agg #[.int .i64 0, .int .i64 0], .bool false]) W := fun W => by kernel_rfl
  have TA1 : ∀ W, Sem.run Tryd.prog (Instr.typeAssert (.iface 63 (.agg #[.slice ao n c])) 54 63 true) W = .ok (.tuple #[.agg #[.slice ao n c], .bool true]) W := fun W => by kernel_rfl
  have TA2 : ∀ W, Sem.run Tryd.prog (Instr.typeAssert (.iface 63 (.agg #[.slice bo n2 c2])) 54 63 true) W = .ok (.tuple #[.agg #[.slice bo n2 c2], .bool true]) W := fun W => by kernel_rfl
  go_enter Tryd.func41, Tryd.ntmps41
  go_wp2
  go_ret
  refine ⟨?_, ?_⟩
  · first | rfl | (simp; done)
  · repeat first | exact Below.refl _ _ | refine Below.setCell ?_ (by simp) _ | refine Below.alloc ?_ (by simp) _ | refine Below.drew ?_
end Go.Proofs.YtdfbfheceobboaaDoor


/-! The code's patch: a part's size, what it tells, what is cut out of it. -/
namespace Go.Proofs.YtdfbfheceobboaaDoor
open Go.RowKit
set_option linter.unusedVariables false
set_option linter.unusedSimpArgs false
set_option maxRecDepth 100000

set_option maxHeartbeats 1000000 in
theorem ssize_any (f n : Nat) (w : World) : Calls Tryd.prog 92 #[.agg #[.int .i64 (f : Int), .int .i64 (n : Int)]] w fun e w' => e = .returned (.int .i64 (n : Int)) ∧ Below w.heap.size w w' := by
  go_enter Tryd.func92, Tryd.ntmps92
  go_wp2
  go_ret
  exact ⟨rfl, (Below.refl _ _).alloc (Nat.le_refl _) _⟩
set_option maxHeartbeats 1000000 in
theorem lsize_any (bo : Option Addr) (n c : Nat) (w : World) : Calls Tryd.prog 88 #[.agg #[.slice bo n c]] w fun e w' => e = .returned (.int .i64 (n : Int)) ∧ Below w.heap.size w w' := by
  go_enter Tryd.func88, Tryd.ntmps88
  go_wp2
  go_ret
  exact ⟨rfl, (Below.refl _ _).alloc (Nat.le_refl _) _⟩
set_option maxHeartbeats 1000000 in
theorem scut_any (f n a b : Nat) (w : World) (hab : a ≤ b) (hb : f + b < 4000000000000) : Calls Tryd.prog 90 #[.agg #[.int .i64 (f : Int), .int .i64 (n : Int)], .int .i64 (a : Int), .int .i64 (b : Int)] w fun e w' => e = .returned (spV (f + a) (b - a)) ∧ Below w.heap.size w w' := by
  have z1 : IntKind.i64.wrap ((f : Int) + (a : Int)) = ((f + a : Nat) : Int) := by rw [i64_in _ (by omega) (by omega)]; push_cast; rfl
  have z2 : IntKind.i64.wrap ((b : Int) - (a : Int)) = ((b - a : Nat) : Int) := by rw [i64_in _ (by omega) (by omega)]; omega
  clear hab hb
  go_enter Tryd.func90, Tryd.ntmps90
  go_wp2
  go_ret
  exact ⟨by unfold spV; push_cast; rfl, (Below.refl _ _).alloc (Nat.le_refl _) _⟩
set_option maxHeartbeats 1000000 in
theorem lcut_any (B off n c a b : Nat) (w : World) (hab : a < b) (hb : b ≤ n) (hn : n ≤ c) (hm : n < 140737488353280) : Calls Tryd.prog 86 #[.agg #[.slice (some ⟨B, off, none⟩) n c], .int .i64 (a : Int), .int .i64 (b : Int)] w fun e w' => e = .returned (layV (some ⟨B, off + a, none⟩) (b - a) (c - a)) ∧ Below w.heap.size w w' := by
  have y0 : (0 : Int) ≤ (a : Int) := by omega
  have y1 : (a : Int) ≤ (b : Int) := by omega
  have y2 : (b : Int) ≤ (c : Int) := by omega
  have y3 : ¬ c = a := by omega
  clear hab hb hn hm
  go_enter Tryd.func86, Tryd.ntmps86
  go_wp2
  go_ret
  exact ⟨by simp, (Below.refl _ _).alloc (Nat.le_refl _) _⟩
set_option maxHeartbeats 1000000 in
theorem stell_any (N : Nat) (f n : Nat) (ao : Option Addr) (m c : Nat) (M : List By) (B off on oc : Nat) (old : List By) (w : World) (hown : Own N w (.slice ao m c) M) (ho : old.length = on) (hoc : on ≤ oc) (hold : IsB w (some ⟨B, off, none⟩) old) (hn : 1 ≤ n) (hfn : f + n ≤ on) (hm : m ≤ 1000000000) (hon : on < 4000000000000) :
    Calls Tryd.prog 93 #[.agg #[.int .i64 (f : Int), .int .i64 (n : Int)], .slice ao m c, .slice (some ⟨B, off, none⟩) on oc] w (PutP N ao w (m + n) (M ++ (old.drop f).take n)) := by
  have z1 : IntKind.i64.wrap ((f : Int) + (n : Int)) = ((f + n : Nat) : Int) := by rw [i64_in _ (by omega) (by omega)]; push_cast; rfl
  have y0 : (0 : Int) ≤ (f : Int) := by omega
  have y1 : (f : Int) ≤ ((f + n : Nat) : Int) := by omega
  have y2 : ((f + n : Nat) : Int) ≤ (oc : Int) := by omega
  have y3 : ¬ oc = f := by omega
  have e1 : (((f + n : Nat) : Int) - (f : Int)).toNat = n := by omega
  have HO : Hid (Own N (w.alloc (.cells #[.int .i64 (f : Int), .int .i64 (n : Int)] 66)) (.slice ao m c) M) := hown.keep ((Below.refl _ _).alloc (Nat.le_refl _) _)
  have HG : Hid (Grw N ao ao w (w.alloc (.cells #[.int .i64 (f : Int), .int .i64 (n : Int)] 66))) := Grw.alloc N ao w _ hown.2
  have HB : Hid (IsB (w.alloc (.cells #[.int .i64 (f : Int), .int .i64 (n : Int)] 66)) (some ⟨B, off + f, none⟩) ((old.drop f).take n)) := by
    have h2 := hold.below ((Below.refl _ _).alloc (Nat.le_refl _) (.cells #[.int .i64 (f : Int), .int .i64 (n : Int)] 66)) (Nat.le_refl _)
    rcases h2 with rfl | ⟨B', off', e, h⟩
    · simp at ho; omega
    · injection e with e; injection e with e1 e2; subst e1; subst e2
      refine .inr ⟨_, _, rfl, fun j v hj => ?_⟩
      rw [List.getElem?_take] at hj
      split at hj
      · rw [List.getElem?_drop] at hj
        have := h _ _ hj
        rw [← Nat.add_assoc] at this
        exact this
      · cases hj
  have HL : Hid (((old.drop f).take n).length = n) := by show _ = _; rw [List.length_take, List.length_drop]; omega
  clear hown hold ho hoc
  generalize (old.drop f).take n = T at *
  go_enter Tryd.func93, Tryd.ntmps93
  go_wp2_with (at_builtin; refine wpList_append_grw rfl (.tmp 7) (.tmp 16) rfl N ao m c M rfl HO.out B (off + f) n (oc - f) T (by show Value.slice (some ⟨B, off + f, none⟩) (f + n - f) (oc - f) = _; rw [Nat.add_sub_cancel_left]) HL.out HB.out (by omega) (by omega) ?_; intro ao2 c2 w2 ho2 hg2; have H2 : Hid (PutP N ao w (m + n) (M ++ T) (.returned (.slice ao2 (m + n) c2)) w2) := ⟨ao2, c2, rfl, ho2, HG.out.trans hg2⟩; clear ho2 hg2)
  go_ret
  exact H2.out
set_option maxHeartbeats 1000000 in
theorem ltell_any (N : Nat) (B off n bc : Nat) (b : List By) (ao : Option Addr) (m c : Nat) (M : List By) (ov : Value) (w : World) (hown : Own N w (.slice ao m c) M) (hb : b.length = n) (hbb : IsB w (some ⟨B, off, none⟩) b) (hn : 1 ≤ n) (hm : m ≤ 1000000000) (hn2 : n < 4000000000000) :
    Calls Tryd.prog 89 #[.agg #[.slice (some ⟨B, off, none⟩) n bc], .slice ao m c, ov] w (PutP N ao w (m + n) (M ++ b)) := by
  have HO : Hid (Own N (w.alloc (.cells #[.slice (some ⟨B, off, none⟩) n bc] 63)) (.slice ao m c) M) := hown.keep ((Below.refl _ _).alloc (Nat.le_refl _) _)
  have HG : Hid (Grw N ao ao w (w.alloc (.cells #[.slice (some ⟨B, off, none⟩) n bc] 63))) := Grw.alloc N ao w _ hown.2
  have HB : Hid (IsB (w.alloc (.cells #[.slice (some ⟨B, off, none⟩) n bc] 63)) (some ⟨B, off, none⟩) b) := hbb.below ((Below.refl _ _).alloc (Nat.le_refl _) _) (Nat.le_refl _)
  have HL : Hid (b.length = n) := hb
  clear hown hbb hb
  go_enter Tryd.func89, Tryd.ntmps89
  go_wp2_with (at_builtin; refine wpList_append_grw rfl (.tmp 7) (.tmp 9) rfl N ao m c M rfl HO.out B off n bc b rfl HL.out HB.out (by omega) (by omega) ?_; intro ao2 c2 w2 ho2 hg2; have H2 : Hid (PutP N ao w (m + n) (M ++ b) (.returned (.slice ao2 (m + n) c2)) w2) := ⟨ao2, c2, rfl, ho2, HG.out.trans hg2⟩; clear ho2 hg2)
  go_ret
  exact H2.out
end Go.Proofs.YtdfbfheceobboaaDoor
