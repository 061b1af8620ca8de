
import Derived.Test.YtngfdofjflmhhaaR4Math
import Derived.WalkKit
import Derived.WalkSpells
import Derived.WalkLawsBesides
import Derived.Deep.QuietTactic
import Derived.BigQuiet
/-! The reference's chip: at, fuse, act, bits, Restore, Blown, Erases. -/
namespace Go.Proofs.Ytngfdofjflmhhaa
open Go.RowKit

set_option maxHeartbeats 1000000 in
set_option maxRecDepth 100000 in
theorem fuse_any (F : RF) (s : RS) (i : Int) (w : World) (h : RAt w F s) :
    Calls Try.prog 48 #[.pointer (some ⟨F.g, 0, none⟩), .int .i64 i] w fun e w' => e = .returned (.int .i64 (s.fuse i)) ∧ w' = w := by
  have c9 := h.cBl
  have c11 := h.cGone
  obtain ⟨r, hr⟩ : ∃ r, r = s.fuse i := ⟨_, rfl⟩
  rw [← hr]
  have HR : Hid (r = s.fuse i) := hr
  clear hr
  by_cases hg : s.gone = true
  · rw [hg] at c11
    go_enter Try.func48, Try.ntmps48
    go_wp2
    go_ret
    exact ⟨by rw [HR.out]; simp [RS.fuse, hg], rfl⟩
  have hg' : s.gone = false := by simpa using hg
  rw [hg'] at c11
  clear hg
  by_cases h1 : i < 0
  · have b1 : decide (i < 0) = true := by simpa using h1
    go_enter Try.func48, Try.ntmps48
    go_wp2
    go_ret
    exact ⟨by rw [HR.out]; simp [RS.fuse, hg', h1], rfl⟩
  have b1 : decide (i < 0) = false := by simpa using h1
  by_cases h2 : (s.blown.length : Int) ≤ i
  · have b2 : decide ((s.blown.length : Int) ≤ i) = true := by simpa using h2
    go_enter Try.func48, Try.ntmps48
    go_wp2
    go_ret
    exact ⟨by rw [HR.out]; simp [RS.fuse, hg', h2], rfl⟩
  have b2 : decide ((s.blown.length : Int) ≤ i) = false := by simpa using h2
  go_enter Try.func48, Try.ntmps48
  go_wp2
  go_ret
  exact ⟨by rw [HR.out]; simp [RS.fuse, hg', h1, h2], rfl⟩
end Go.Proofs.Ytngfdofjflmhhaa
