
import Derived.Test.YtngfdofjflmhhaaC4A
import Derived.Test.YtngfdofjflmhhaaR4Prog
/-! The code's chip: act, lower, Program. -/
namespace Go.Proofs.Ytngfdofjflmhhaa
open Go.RowKit

theorem ccells_cut (s : RS) (F : RF) (S : ByteArray) (b : Bool) (n : Int) (T : ByteArray) (s' : RS) (hc : s'.c = s.c) (hp : s'.pages = s.pages) (he : s'.erases = s.erases) (hb : s'.blown = s.blown) (hn : s'.n = s.n) (hg : s'.gone = s.gone) (h1 : decide (0 ≤ s'.wait) = b) (h2 : (s'.wait.toNat : Int) = n) :
    (((s.ccells F S).set 12 (.bool b)).set 13 (.int .i64 n)).set 14 (.string T) = s'.ccells F T := by
  unfold RS.ccells
  rw [hc, hp, he, hb, hn, hg, h1, h2]
  rfl
theorem ccells_ahead (s : RS) (F : RF) (S : ByteArray) (n : Int) (s' : RS) (hc : s'.c = s.c) (hp : s'.pages = s.pages) (he : s'.erases = s.erases) (hb : s'.blown = s.blown) (hn : s'.n = s.n) (hg : s'.gone = s.gone) (h1 : decide (0 ≤ s'.wait) = decide (0 ≤ s.wait)) (h2 : (s'.wait.toNat : Int) = n) :
    (s.ccells F S).set 13 (.int .i64 n) = s'.ccells F S := by
  unfold RS.ccells
  rw [hc, hp, he, hb, hn, hg, h1, h2]
  rfl

/-- A text of one byte. -/
theorem one_is (b : UInt8) (x : By) (h : b.toNat = x.toNat) : StrIs ⟨#[b]⟩ [x] := by
  refine ⟨rfl, fun i hi => ?_⟩
  have hi' : i < 1 := hi
  obtain rfl : i = 0 := by omega
  exact h
theorem bits_one (x : By) (i : Nat) : bitsAt [x] i = x := by
  unfold bitsAt
  rw [List.length_singleton, Nat.mod_one]; rfl

/-- What act hands out: a mask that says which of the bits change. -/
def ActM (s : RS) (M : ByteArray) : Prop := ∃ m, StrIs M m ∧ m ≠ [] ∧ ∀ i : Nat, (i : Int) < 32 * s.c.cells → bitsAt m i = if s.cut then bitsAt s.mask i else 255#8

def ActPost (F : RF) (s : RS) (w : World) (e : Ending) (w' : World) : Prop := ∃ M S', e = .returned (.tuple #[.string M, .int .i64 (if s.cut then 8 else 0)]) ∧ ActM s M ∧ CAt w' F s.act S' ∧ SameBut F.g w w'

set_option maxHeartbeats 2000000 in
set_option maxRecDepth 100000 in
theorem cact_any (F : RF) (s : RS) (S : ByteArray) (w : World) (h : CAt w F s S) (hn0 : 0 ≤ s.n) (hn : s.n < 4611686018427387904) (hw : s.wait < 9223372036854775808) :
    Calls Try.prog 46 #[.pointer (some ⟨F.g, 0, none⟩)] w (ActPost F s w) := by
  have c10 := h.cN
  have c12 := h.cWaits
  have c13 := h.cAhead
  have c14 := h.cMask
  have f10 := h.row.frozen 10
  have f11 := h.row.frozen 11
  have f12 := h.row.frozen 12
  have f13 := h.row.frozen 13
  have f14 := h.row.frozen 14
  have c11 := h.cGone
  have hwt := h.wt
  have j1 : IntKind.i64.wrap (s.n + 1) = s.n + 1 := i64_in _ (by omega) (by omega)
  have HN : Hid (s.n < 4611686018427387904) := hn
  have HW : Hid (s.wait < 9223372036854775808) := hw
  have r1 := h.row.set 10 (.int .i64 (s.n + 1))
  rw [ccells_n] at r1
  have s1 := SameBut.setCell F.g 10 (.int .i64 (s.n + 1)) w
  clear hn hw hn0
  by_cases h1 : 0 ≤ s.wait
  · have d1 : decide (0 ≤ s.wait) = true := by simpa using h1
    rw [d1] at c12
    obtain ⟨wn, hwn⟩ := Int.eq_ofNat_of_zero_le h1
    have hwt2 : s.wait.toNat = wn := by omega
    rw [hwt2] at c13
    have HM := h.msk h1
    by_cases h0 : wn = 0
    · subst h0
      have hcut : s.cut = true := by simp [RS.cut, hwn]
      have HCUT : Hid (s.cut = true) := hcut
      have r2 := (((r1.set 12 (.bool false)).set 13 (.int .i64 0)).set 14 (.string ⟨#[]⟩)).set 11 (.bool true)
      rw [ccells_cut { s with n := s.n + 1 } F S false 0 ⟨#[]⟩ { s with n := s.n + 1, wait := -1 } rfl rfl rfl rfl rfl rfl rfl rfl, ccells_gone] at r2
      have s2 := (((s1.trans (SameBut.setCell F.g 12 (.bool false) _)).trans (SameBut.setCell F.g 13 (.int .i64 0) _)).trans (SameBut.setCell F.g 14 (.string ⟨#[]⟩) _)).trans (SameBut.setCell F.g 11 (.bool true) _)
      have HACT : Hid (s.act = { { s with n := s.n + 1, wait := -1 } with gone := true }) := by show _ = _; simp [RS.act, hwn]
      have HA : Hid (ActM s S) := by
        obtain ⟨m, m1, m2, m3⟩ := HM
        exact ⟨m, m1, m2, fun i hi => by rw [m3 i hi, hcut, if_pos rfl]⟩
      have HH : Hid (CAt w F s S) := h
      clear h HM hcut hwn hwt2 h1 d1
      go_enter Try.func46, Try.ntmps46
      go_wp2
      go_ret2
      refine ⟨S, ⟨#[]⟩, by rw [HCUT.out]; rfl, HA.out, ?_, s2⟩
      refine HH.out.struct s2 (by rw [HACT.out]; exact r2) rfl rfl rfl rfl (by rw [HACT.out]; exact (by decide : (-1 : Int) ≤ -1)) (by rw [HACT.out]; intro hh; exact absurd hh (by show ¬ (0 : Int) ≤ -1; decide))
    · have hcut : s.cut = false := by simp [RS.cut]; omega
      have HCUT : Hid (s.cut = false) := hcut
      have e2 : decide ((0 : Int) < (wn : Int)) = true := by simp; omega
      have j2 : IntKind.i64.wrap ((wn : Int) - 1) = (wn : Int) - 1 := i64_in _ (by omega) (by have := HW.out; omega)
      have r2 := r1.set 13 (.int .i64 ((wn : Int) - 1))
      rw [ccells_ahead { s with n := s.n + 1 } F S ((wn : Int) - 1) { s with n := s.n + 1, wait := s.wait - 1 } rfl rfl rfl rfl rfl rfl (by show decide (0 ≤ s.wait - 1) = decide (0 ≤ s.wait); rw [d1, decide_eq_true_iff]; omega) (by show (((s.wait - 1).toNat : Nat) : Int) = _; omega)] at r2
      have s2 := s1.trans (SameBut.setCell F.g 13 (.int .i64 ((wn : Int) - 1)) _)
      have HACT : Hid (s.act = { s with n := s.n + 1, wait := s.wait - 1 }) := by
        show _ = _
        unfold RS.act
        rw [if_neg (by omega), if_neg (by omega), if_pos (by omega)]
      have HA : Hid (ActM s ⟨#[255]⟩) := ⟨[255#8], one_is _ _ rfl, by simp, fun i _ => by rw [bits_one, hcut]; rfl⟩
      have HH : Hid (CAt w F s S) := h
      have HX : Hid (-1 ≤ s.wait - 1) := by show _ ≤ _; omega
      clear h hcut hwn hwt2 h1 d1
      go_enter Try.func46, Try.ntmps46
      go_wp2
      go_ret2
      refine ⟨⟨#[255]⟩, S, by rw [HCUT.out]; rfl, HA.out, ?_, s2⟩
      exact HH.out.struct s2 (by rw [HACT.out]; exact r2) rfl rfl rfl rfl (by rw [HACT.out]; exact HX.out) (by rw [HACT.out]; intro _; exact HM)
  · have d1 : decide (0 ≤ s.wait) = false := by simpa using h1
    rw [d1] at c12
    have hcut : s.cut = false := by simp [RS.cut]; omega
    have HCUT : Hid (s.cut = false) := hcut
    have HACT : Hid (s.act = { s with n := s.n + 1 }) := by
      show _ = _
      unfold RS.act
      rw [if_neg (by omega), if_neg (by omega), if_neg (by omega)]
    have HA : Hid (ActM s ⟨#[255]⟩) := ⟨[255#8], one_is _ _ rfl, by simp, fun i _ => by rw [bits_one, hcut]; rfl⟩
    have HH : Hid (CAt w F s S) := h
    have H1 : Hid (¬ 0 ≤ s.wait) := h1
    clear h hcut h1 d1
    go_enter Try.func46, Try.ntmps46
    go_wp2
    go_ret2
    refine ⟨⟨#[255]⟩, S, by rw [HCUT.out]; rfl, HA.out, ?_, s1⟩
    exact HH.out.struct s1 (by rw [HACT.out]; exact r1) rfl rfl rfl rfl (by rw [HACT.out]; exact hwt) (by rw [HACT.out]; intro hh; exact absurd hh (Int.not_le.2 H1.out))
end Go.Proofs.Ytngfdofjflmhhaa
