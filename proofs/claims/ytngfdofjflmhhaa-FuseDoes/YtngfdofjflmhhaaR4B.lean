
import Derived.Test.YtngfdofjflmhhaaR4A
/-! The reference's chip: act, bits, Restore, Blown, Erases. -/
namespace Go.Proofs.Ytngfdofjflmhhaa
open Go.RowKit

theorem cells_n (s : RS) (F : RF) (n : Int) : (s.cellsOf F).set 10 (.int .i64 n) = ({ s with n := n } : RS).cellsOf F := rfl
theorem cells_gone (s : RS) (F : RF) (g : Bool) : (s.cellsOf F).set 11 (.bool g) = ({ s with gone := g } : RS).cellsOf F := rfl
theorem cells_wait (s : RS) (F : RF) (n : Int) : (s.cellsOf F).set 12 (.int .i64 n) = ({ s with wait := n } : RS).cellsOf F := rfl

set_option maxHeartbeats 1000000 in
set_option maxRecDepth 100000 in
theorem act_any (F : RF) (s : RS) (w : World) (h : RAt w F s) (hn0 : 0 ≤ s.n) (hn : s.n < 4611686018427387904) (hw : s.wait < 9223372036854775808) :
    Calls Try.prog 49 #[.pointer (some ⟨F.g, 0, none⟩)] w fun e w' => e = .returned (.bool s.cut) ∧ RAt w' F s.act ∧ SameBut F.g w w' := by
  have c10 := h.cN
  have c12 := h.cWait
  have c11 := h.cGone
  have f10 := h.row.frozen 10
  have f11 := h.row.frozen 11
  have f12 := h.row.frozen 12
  have j1 : IntKind.i64.wrap (s.n + 1) = s.n + 1 := i64_in _ (by omega) (by omega)
  have HN : Hid (s.n < 4611686018427387904) := hn
  have HW : Hid (s.wait < 9223372036854775808) := hw
  have r1 := h.row.set 10 (.int .i64 (s.n + 1))
  rw [cells_n] at r1
  have s1 := SameBut.setCell F.g 10 (.int .i64 (s.n + 1)) w
  obtain ⟨res, hres⟩ : ∃ r, r = s.cut := ⟨_, rfl⟩
  rw [← hres]
  have HR : Hid (res = s.cut) := hres
  clear hn hw hres hn0
  by_cases h0 : s.wait = 0
  · have e1 : (s.wait == 0) = true := by rw [beq_iff_eq]; exact h0
    have r2 := (r1.set 11 (.bool true)).set 12 (.int .i64 (-1))
    rw [cells_gone, cells_wait] at r2
    have s2 := (s1.trans (SameBut.setCell F.g 11 (.bool true) _)).trans (SameBut.setCell F.g 12 (.int .i64 (-1)) _)
    go_enter Try.func49, Try.ntmps49
    go_wp2
    go_ret
    refine ⟨by rw [HR.out]; simp [RS.cut, h0], ?_, s2⟩
    refine h.struct s2 ?_ rfl rfl rfl rfl rfl
    have e : s.act = { { { s with n := s.n + 1 } with gone := true } with wait := -1 } := by simp [RS.act, h0]
    rw [e]; exact r2
  · have e1 : (s.wait == 0) = false := by rw [beq_eq_false_iff_ne]; exact h0
    by_cases h1 : 0 < s.wait
    · have e2 : decide (0 < s.wait) = true := by simpa using h1
      have j2 : IntKind.i64.wrap (s.wait - 1) = s.wait - 1 := i64_in _ (by omega) (by have := HW.out; omega)
      have r2 := r1.set 12 (.int .i64 (s.wait - 1))
      rw [cells_wait] at r2
      have s2 := s1.trans (SameBut.setCell F.g 12 (.int .i64 (s.wait - 1)) _)
      go_enter Try.func49, Try.ntmps49
      go_wp2
      go_ret
      refine ⟨by rw [HR.out]; simp [RS.cut, h0], ?_, s2⟩
      refine h.struct s2 ?_ rfl rfl rfl rfl rfl
      have e : s.act = { { s with n := s.n + 1 } with wait := s.wait - 1 } := by simp [RS.act, h0, h1]
      rw [e]; exact r2
    · have e2 : decide (0 < s.wait) = false := by simpa using h1
      go_enter Try.func49, Try.ntmps49
      go_wp2
      go_ret
      refine ⟨by rw [HR.out]; simp [RS.cut, h0], ?_, s1⟩
      refine h.struct s1 ?_ rfl rfl rfl rfl rfl
      have e : s.act = { s with n := s.n + 1 } := by simp [RS.act, h0]; omega
      rw [e]; exact r1

set_option maxHeartbeats 1000000 in
set_option maxRecDepth 100000 in
theorem bits_any (F : RF) (s : RS) (i : Nat) (w : World) (h : RAt w F s) :
    Calls Try.prog 50 #[.pointer (some ⟨F.g, 0, none⟩), .int .i64 (i : Int)] w fun e w' => e = .returned (.int .u8 ((bitsAt s.mask i).toNat : Int)) ∧ Dr w w' := by
  have c13 := h.cMask
  rcases h.msk with h0 | ⟨B, h1, h2, h3⟩
  · have e0 : bitsAt s.mask i = 0 := by rw [h0]; rfl
    rw [e0]
    rw [h0] at c13
    go_enter Try.func50, Try.ntmps50
    go_wp2
    go_ret
    exact ⟨rfl, Dr.refl _⟩
  · by_cases hz : s.mask.length = 0
    · have h0 : s.mask = [] := List.length_eq_zero_iff.1 hz
      have e0 : bitsAt s.mask i = 0 := by rw [h0]; rfl
      rw [e0]
      rw [hz] at c13
      go_enter Try.func50, Try.ntmps50
      go_wp2
      go_ret
      exact ⟨rfl, Dr.refl _⟩
    · have hpos : 0 < s.mask.length := by omega
      have hlt : i % s.mask.length < s.mask.length := Nat.mod_lt _ hpos
      have cx : w.cell? ⟨B, i % s.mask.length, none⟩ = some (.int .u8 ((bitsAt s.mask i).toNat : Int)) := h3.cell _ _ (by
        unfold bitsAt
        rw [List.getElem?_map, List.getD_eq_getElem?_getD, List.getElem?_eq_getElem hlt]; rfl)
      rw [h2] at c13
      generalize bitsAt s.mask i = x at cx ⊢
      have e1 : ((s.mask.length : Int) == 0) = false := by rw [beq_eq_false_iff_ne]; omega
      have hrem : (i : Int) % (s.mask.length : Int) = ((i % s.mask.length : Nat) : Int) := by simp
      have hrem2 : (i : Int).tmod (s.mask.length : Int) = ((i % s.mask.length : Nat) : Int) := by rw [Int.tmod_eq_emod_of_nonneg (by omega)]; simp
      generalize hm : i % s.mask.length = m at *
      generalize s.mask.length = L at *
      have i1 : (0 : Int) ≤ (m : Int) := by omega
      have i2 : (m : Int) < (L : Int) := by omega
      clear hm
      go_enter Try.func50, Try.ntmps50
      go_wp2
      go_quiet (fail)
      go_wp2
      go_ret
      exact ⟨rfl, ⟨nq, rfl⟩⟩

set_option maxHeartbeats 1000000 in
set_option maxRecDepth 100000 in
theorem restore_any (F : RF) (s : RS) (w : World) (h : RAt w F s) :
    Calls Try.prog 33 #[.pointer (some ⟨F.g, 0, none⟩)] w fun e w' => e = .returned (.tuple #[]) ∧ RAt w' F { s with gone := false } ∧ SameBut F.g w w' := by
  have c11 := h.cGone
  have f11 := h.row.frozen 11
  have r1 := h.row.set 11 (.bool false)
  rw [cells_gone] at r1
  have s1 := SameBut.setCell F.g 11 (.bool false) w
  go_enter Try.func33, Try.ntmps33
  go_wp2
  go_end0
  exact ⟨rfl, h.struct s1 r1 rfl rfl rfl rfl rfl, s1⟩

theorem at_zero {s : RS} {p c : Int} (h : s.at p c = 0) : s.gone = false ∧ 0 ≤ p ∧ p < (s.pages.length : Int) ∧ 0 ≤ c ∧ c < s.c.cells := by
  unfold RS.at at h
  split at h
  · omega
  · rename_i hg
    split at h
    · omega
    · rename_i hh
      refine ⟨by simpa using hg, by omega, by omega, by omega, by omega⟩

end Go.Proofs.Ytngfdofjflmhhaa
