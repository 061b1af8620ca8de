
import Derived.Test.YthegfkcegmeklaaH16Ref4
import Derived.Lib.AppendZeros
/-! The code's chain: appendNumber. -/
namespace Go.Proofs.Ythegfkcegmeklaa
open Go.RowKit
set_option linter.unusedVariables false

/-- Bytes that append may go on from: of one's own, or a full slice, whoever's it is. -/
def Fro (N : Nat) (w : World) (ao : Option Addr) (nD capD : Nat) (m : List By) : Prop :=
  Own N w (.slice ao nD capD) m ∨ (N ≤ w.heap.size ∧ m.length = nD ∧ ∃ g, ao = some ⟨g, 0, none⟩ ∧ capD = nD ∧ IsB w ao m)
theorem isb_one (w : World) (y : By) (yy : Int) (h : yy = (y.toNat : Int)) : IsB (w.alloc (.cells #[.int .u8 yy] 5)) (some ⟨w.heap.size, 0, none⟩) [y] := by
  subst h
  exact row_isb (Row.at w 5 ([y].map B8) _ _ rfl rfl)

set_option maxHeartbeats 1000000 in
set_option maxRecDepth 100000 in
theorem cnum_any (N : Nat) (w : World) (ao : Option Addr) (nD capD : Nat) (m : List By) (ho : Fro N w ao nD capD m) (x k : Nat) (hx : x < 18446744073709551616) (hk : k ≤ 8) (hk0 : 0 < k) (hnD : nD ≤ 140737488351744) :
    Calls Try.prog 35 #[.slice ao nD capD, .int .u64 x, .int .i64 k] w fun e w' => ∃ ao' c', e = .returned (.slice ao' (nD + k) c') ∧ Own N w' (.slice ao' (nD + k) c') (m ++ numB x k) ∧ Below N w w' := by
  have HO : Hid (Fro N w ao (nD + 0) capD (m ++ numB x 0)) := by
    show Fro N w ao (nD + 0) capD (m ++ numB x 0)
    simpa [numB] using ho
  clear ho
  go_enter Try.func35, Try.ntmps35
  go_wp2
  go_loopw [0, 9] (fun bv iv wr => ∃ (i : Nat) (bo : Option Addr) (bc : Nat), i ≤ k ∧ bv = .slice bo (nD + i) bc ∧ iv = .int .i64 i ∧ Hid (Fro N wr bo (nD + i) bc (m ++ numB x i) ∧ Below N w wr ∧ (0 < i → Own N wr (.slice bo (nD + i) bc) (m ++ numB x i)))) (fun _ iv _ => k - (intOf iv).toNat)
  case atStart => exact ⟨0, ao, capD, by omega, rfl, rfl, HO.out, Below.refl _ _, fun h => by omega⟩
  case round =>
    clear HO
    obtain ⟨i, bo, bc, hi, rfl, rfl, HI⟩ := hrel
    by_cases hlt : i < k
    · have y0 : (0 : Int) ≤ (i : Int) := by omega
      have y1 : (i : Int) < (k : Int) := by omega
      have z1 : IntKind.i64.wrap (8 * (i : Int)) = 8 * (i : Int) := i64_in _ (by omega) (by omega)
      have HYY : Hid ((x : Int) / 2 ^ (8 * i) % 256 = ((BitVec.ofNat 8 (x / 2 ^ (8 * i))).toNat : Int)) := by
        show _ = _
        rw [BitVec.toNat_ofNat]
        simp [Int.natCast_ediv, Int.natCast_emod, Int.natCast_pow]
      rcases HI.out.1 with hown | ⟨hN, hml, g, hg, hc, hib⟩
      · have HOW : Hid (Own N wr (.slice bo (nD + i) bc) (m ++ numB x i)) := hown
        clear hown
        have HL : Hid ((m ++ numB x i).length = nD + i) := HOW.out.len
        go_wp2_with (at_builtin; refine wpList_append_one rfl (.tmp 12) (.tmp 18) rfl N 5 w (.slice bo (nD + i) bc) (m ++ numB x i) _ _ HYY.out wr.heap.size rfl rfl rfl HOW.out HI.out.2.1 (nD + i) HL.out (by omega) ?_; intro g2 c2 w2 ho2 hb2)
        have ho3 : Own N w2 (.slice (some ⟨g2, 0, none⟩) (nD + (i + 1)) c2) (m ++ numB x (i + 1)) := by rw [numB_succ, ← List.append_assoc]; exact ho2
        exact ⟨⟨i + 1, _, c2, by omega, rfl, by go_num, ⟨.inl ho3, hb2, fun _ => ho3⟩⟩, by simp [intOf]; omega⟩
      · subst hg hc
        have HIB : Hid (IsB (wr.alloc (.cells #[.int .u8 ((x : Int) / 2 ^ (8 * i) % 256)] 5)) (some ⟨g, 0, none⟩) (m ++ numB x i)) := hib.below ((Below.refl _ _).alloc (Nat.le_refl _) _) (Nat.le_refl _)
        have HML : Hid ((m ++ numB x i).length = nD + i) := hml
        have HN : Hid (N ≤ wr.heap.size) := hN
        clear hib hml hN
        go_wp2_with (at_builtin; refine wpList_append_full rfl (.tmp 12) (.tmp 18) rfl g (nD + i) (m ++ numB x i) rfl HML.out HIB.out wr.heap.size 1 1 [BitVec.ofNat 8 (x / 2 ^ (8 * i))] rfl rfl (isb_one _ _ _ HYY.out) (by omega) (by omega) ?_; intro g2 c2 w2 ho2 hb2)
        have ho3 : Own N w2 (.slice g2 (nD + (i + 1)) c2) (m ++ numB x (i + 1)) := by rw [numB_succ, ← List.append_assoc]; exact own_le ho2 (by simp; have := HN.out; omega)
        have hb3 : Below N w w2 := HI.out.2.1.trans (((Below.refl _ _).alloc (Nat.le_refl _) _).trans (hb2.mono (by simp)) |>.mono HN.out)
        exact ⟨⟨i + 1, _, c2, by omega, rfl, by go_num, ⟨.inl ho3, hb3, fun _ => ho3⟩⟩, by simp [intOf]; omega⟩
    · obtain rfl : i = k := by omega
      have y1 : ¬ ((i : Nat) : Int) < (i : Int) := by omega
      go_wp2
      go_ret
      exact ⟨bo, bc, rfl, HI.out.2.2 hk0, HI.out.2.1⟩
end Go.Proofs.Ythegfkcegmeklaa
