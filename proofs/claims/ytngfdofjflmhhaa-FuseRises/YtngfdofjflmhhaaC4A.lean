
import Derived.Test.YtngfdofjflmhhaaC4Mem
/-! The code's chip: within, at of a mask, ask, askPage, askCell, askFuse, Acts, Out, Restore. -/
namespace Go.Proofs.Ytngfdofjflmhhaa
open Go.RowKit

set_option maxHeartbeats 1000000 in
set_option maxRecDepth 100000 in
theorem cwithin_any (n lo hi : Int) (b : Bool) (hb : decide (lo ≤ n ∧ n ≤ hi) = b) (w : World) :
    Calls Try.prog 40 #[.int .i64 n, .int .i64 lo, .int .i64 hi] w fun e w' => e = .returned (.bool b) ∧ w' = w := by
  have HB : Hid (decide (lo ≤ n ∧ n ≤ hi) = b) := hb
  clear hb
  by_cases h1 : lo ≤ n
  · have b1 : decide (lo ≤ n) = true := by simpa using h1
    by_cases h2 : n ≤ hi
    · have b2 : decide (n ≤ hi) = true := by simpa using h2
      go_enter Try.func40, Try.ntmps40
      go_wp2
      go_ret
      exact ⟨by rw [← HB.out]; simp [h1, h2], rfl⟩
    · have b2 : decide (n ≤ hi) = false := by simpa using h2
      go_enter Try.func40, Try.ntmps40
      go_wp2
      go_ret
      exact ⟨by rw [← HB.out]; simp [h1, h2], rfl⟩
  · have b1 : decide (lo ≤ n) = false := by simpa using h1
    go_enter Try.func40, Try.ntmps40
    go_wp2
    go_ret
    exact ⟨by rw [← HB.out]; simp; omega, rfl⟩

set_option maxHeartbeats 1000000 in
set_option maxRecDepth 100000 in
theorem mat_any (S : ByteArray) (m : List By) (hS : StrIs S m) (hm : m ≠ []) (i : Nat) (w : World) :
    Calls Try.prog 47 #[.string S, .int .i64 (i : Int)] w fun e w' => e = .returned (.int .u8 ((bitsAt m i).toNat : Int)) ∧ w' = w := by
  have hpos : 0 < S.size := by rw [hS.1]; exact List.length_pos_iff.2 hm
  have hlt : i % S.size < S.size := Nat.mod_lt _ hpos
  have hget := hS.2 _ hlt
  have hx : (bitsAt m i).toNat = (S[i % S.size]'hlt).toNat := by rw [hget]; unfold bitsAt; rw [hS.1]
  obtain ⟨res, hres⟩ : ∃ r, r = (bitsAt m i).toNat := ⟨_, rfl⟩
  rw [← hres]
  have HR : Hid (res = (S[i % S.size]'hlt).toNat) := by rw [← hx]; exact hres
  have hrem2 : (i : Int).tmod (S.size : Int) = ((i % S.size : Nat) : Int) := by rw [Int.tmod_eq_emod_of_nonneg (by omega)]; simp
  have hz : ((S.size : Int) == 0) = false := by rw [beq_eq_false_iff_ne]; omega
  have k1 : (0 : Int) ≤ ((i % S.size : Nat) : Int) := Int.natCast_nonneg _
  have k2 : ((i % S.size : Nat) : Int) < (S.size : Int) := Int.ofNat_lt.2 hlt
  have hidx : (Instr.index 60 (.string S) (.int .i64 ((i % S.size : Nat) : Int))).run Try.prog w = .ok (.int .u8 (res : Int)) w := by
    rw [run_index_string w 60 S .i64 _ Try.underlying60, dif_pos ⟨k1, k2⟩, HR.out]
    simp only [Int.toNat_natCast]
  clear hget hx hres hS hm HR
  generalize i % S.size = r at *
  generalize hsz : S.size = L at *
  have hlen : (Builtin.len_ #[60] 3 #[.string S]).run Try.prog w = .ok (goInt L) w := by rw [run_len_string w 60 3 S Try.underlying60, hsz]
  go_enter Try.func47, Try.ntmps47
  go_wp2
  go_ret
  exact ⟨rfl, rfl⟩

def RS.ask (s : RS) (i n : Int) : Int := if s.gone then 8 else if i < 0 ∨ n ≤ i then 2 else 0

set_option maxHeartbeats 1000000 in
set_option maxRecDepth 100000 in
theorem cask_any (F : RF) (s : RS) (S : ByteArray) (i n : Int) (w : World) (h : CAt w F s S) (hn0 : 0 ≤ n) (hn : n ≤ 4294967296) :
    Calls Try.prog 53 #[.pointer (some ⟨F.g, 0, none⟩), .int .i64 i, .int .i64 n] w fun e w' => e = .returned (.int .i64 (s.ask i n)) ∧ w' = w := by
  have c11 := h.cGone
  obtain ⟨r, hr⟩ : ∃ r, r = s.ask i n := ⟨_, rfl⟩
  rw [← hr]
  have HR : Hid (r = s.ask i n) := hr
  clear hr
  have j1 : IntKind.i64.wrap (n - 1) = n - 1 := i64_in _ (by omega) (by omega)
  by_cases hg : s.gone = true
  · rw [hg] at c11
    go_enter Try.func53, Try.ntmps53
    go_wp2
    go_ret
    exact ⟨by rw [HR.out]; simp [RS.ask, hg], rfl⟩
  have hg' : s.gone = false := by simpa using hg
  rw [hg'] at c11
  clear hg
  by_cases h1 : i < 0 ∨ n ≤ i
  · have HW := fun W => cwithin_any i 0 (n - 1) false (by simp; omega) W
    have h1' : Hid (i < 0 ∨ n ≤ i) := h1
    clear h1
    go_enter Try.func53, Try.ntmps53
    go_wp2_with (refine (HW _).mono ?_; rintro e w1 ⟨rfl, rfl⟩)
    go_ret
    exact ⟨by rw [HR.out]; unfold RS.ask; rw [hg', if_neg (by simp), if_pos h1'.out]; rfl, rfl⟩
  · have HW := fun W => cwithin_any i 0 (n - 1) true (by simp; omega) W
    have h1' : Hid (¬ (i < 0 ∨ n ≤ i)) := h1
    clear h1
    go_enter Try.func53, Try.ntmps53
    go_wp2_with (refine (HW _).mono ?_; rintro e w1 ⟨rfl, rfl⟩)
    go_ret
    exact ⟨by rw [HR.out]; unfold RS.ask; rw [hg', if_neg (by simp), if_neg h1'.out]; rfl, rfl⟩

theorem ask_page {s : RS} (h : s.Ok) (p : Int) : s.ask p s.pages.length = s.at p 0 := by
  have := h.c1
  unfold RS.ask RS.at
  split
  · rfl
  · congr 1
    apply propext
    omega
theorem ask_cell {s : RS} (h : s.Ok) (p c : Int) (h0 : s.at p 0 = 0) : s.ask c ((s.pages.getD p.toNat []).length : Int) = s.at p c := by
  unfold RS.at at h0
  unfold RS.ask RS.at
  split at h0
  · omega
  · split at h0
    · omega
    · rename_i hg hh
      rw [if_neg hg, if_neg hg]
      have := (h.pgLen p.toNat (by omega)).1
      rw [this]
      congr 1
      apply propext
      omega
theorem at_first {s : RS} (h : s.Ok) (p c : Int) (h0 : ¬ s.at p 0 = 0) : s.at p c = s.at p 0 := by
  have := h.c1
  unfold RS.at at h0 ⊢
  split at h0
  · rename_i hg; rw [if_pos hg, if_pos hg]
  · split at h0
    · rename_i hg hh
      rw [if_neg hg, if_neg hg, if_pos hh, if_pos (by omega)]
    · omega
theorem ask_fuse {s : RS} (i : Int) : s.ask i s.blown.length = s.fuse i := rfl

set_option maxHeartbeats 1000000 in
set_option maxRecDepth 100000 in
theorem caskFuse_any (F : RF) (s : RS) (S : ByteArray) (i : Int) (w : World) (h : CAt w F s S) :
    Calls Try.prog 45 #[.pointer (some ⟨F.g, 0, none⟩), .int .i64 i] w fun e w' => e = .returned (.int .i64 (s.fuse i)) ∧ w' = w := by
  have c9 := h.cBl
  have hl : s.blown.length ≤ 576 := h.ok.bl
  have HA : Hid (∀ W, W = w → Calls Try.prog 53 #[.pointer (some ⟨F.g, 0, none⟩), .int .i64 i, .int .i64 (s.blown.length : Int)] W fun e w' => e = .returned (.int .i64 (s.fuse i)) ∧ w' = W) := by
    rintro W rfl
    rw [← ask_fuse i]
    exact cask_any F s S i s.blown.length W h (by omega) (by omega)
  go_enter Try.func45, Try.ntmps45
  go_wp2_with (refine (HA.out _ rfl).mono ?_; rintro e w1 ⟨rfl, rfl⟩)
  go_ret
  exact ⟨rfl, rfl⟩

set_option maxHeartbeats 1000000 in
set_option maxRecDepth 100000 in
theorem cacts_any (F : RF) (s : RS) (S : ByteArray) (w : World) (h : CAt w F s S) :
    Calls Try.prog 11 #[.pointer (some ⟨F.g, 0, none⟩)] w fun e w' => e = .returned (.int .i64 s.n) ∧ w' = w := by
  have c10 := h.cN
  go_enter Try.func11, Try.ntmps11
  go_wp2
  go_ret
  exact ⟨rfl, rfl⟩

set_option maxHeartbeats 1000000 in
set_option maxRecDepth 100000 in
theorem cout_any (F : RF) (s : RS) (S : ByteArray) (w : World) (h : CAt w F s S) :
    Calls Try.prog 12 #[.pointer (some ⟨F.g, 0, none⟩)] w fun e w' => e = .returned (.bool s.gone) ∧ w' = w := by
  have c11 := h.cGone
  go_enter Try.func12, Try.ntmps12
  go_wp2
  go_ret
  exact ⟨rfl, rfl⟩

theorem ccells_n (s : RS) (F : RF) (S : ByteArray) (n : Int) : (s.ccells F S).set 10 (.int .i64 n) = ({ s with n := n } : RS).ccells F S := rfl
theorem ccells_gone (s : RS) (F : RF) (S : ByteArray) (g : Bool) : (s.ccells F S).set 11 (.bool g) = ({ s with gone := g } : RS).ccells F S := rfl

set_option maxHeartbeats 1000000 in
set_option maxRecDepth 100000 in
theorem crestore_any (F : RF) (s : RS) (S : ByteArray) (w : World) (h : CAt w F s S) :
    Calls Try.prog 16 #[.pointer (some ⟨F.g, 0, none⟩)] w fun e w' => e = .returned (.tuple #[]) ∧ CAt w' F { s with gone := false } S ∧ SameBut F.g w w' := by
  have c11 := h.cGone
  have f11 := h.row.frozen 11
  have r1 := h.row.set 11 (.bool false)
  rw [ccells_gone] at r1
  have s1 := SameBut.setCell F.g 11 (.bool false) w
  go_enter Try.func16, Try.ntmps16
  go_wp2
  go_end0
  exact ⟨rfl, h.struct s1 r1 rfl rfl rfl rfl h.wt h.msk, s1⟩

set_option maxHeartbeats 1000000 in
set_option maxRecDepth 100000 in
theorem cblown_any (F : RF) (s : RS) (S : ByteArray) (i : Int) (w : World) (h : CAt w F s S) :
    Calls Try.prog 39 #[.pointer (some ⟨F.g, 0, none⟩), .int .i64 i] w fun e w' => e = .returned (.tuple #[.bool (if s.fuse i = 0 then s.blown.getD i.toNat false else false), .int .i64 (s.fuse i)]) ∧ w' = w := by
  have c9 := h.cBl
  have HF : Hid (∀ W, W = w → Calls Try.prog 45 #[.pointer (some ⟨F.g, 0, none⟩), .int .i64 i] W fun e w' => e = .returned (.int .i64 (s.fuse i)) ∧ w' = W) := by
    rintro W rfl
    exact caskFuse_any F s S i W h
  by_cases h0 : s.fuse i = 0
  · have hi : 0 ≤ i ∧ i < (s.blown.length : Int) := by
      unfold RS.fuse at h0
      split at h0
      · omega
      · split at h0
        · omega
        · omega
    have cx : w.cell? ⟨F.bB, i.toNat, none⟩ = some (.bool (s.blown.getD i.toNat false)) := h.bl.cell _ _ (by
      rw [List.getElem?_map, List.getD_eq_getElem?_getD, List.getElem?_eq_getElem (by omega)]; rfl)
    rw [h0, if_pos rfl]
    rw [h0] at HF
    generalize s.blown.getD i.toNat false = x at cx ⊢
    have i1 := hi.1
    have i2 := hi.2
    go_enter Try.func39, Try.ntmps39
    go_wp2_with (refine (HF.out _ rfl).mono ?_; rintro e w1 ⟨rfl, rfl⟩)
    go_ret2
    exact ⟨rfl, rfl⟩
  · rw [if_neg h0]
    generalize s.fuse i = f at *
    have e1 : (f != 0) = true := by rw [bne_iff_ne]; exact h0
    go_enter Try.func39, Try.ntmps39
    go_wp2_with (refine (HF.out _ rfl).mono ?_; rintro e w1 ⟨rfl, rfl⟩)
    go_ret2
    exact ⟨rfl, rfl⟩

end Go.Proofs.Ytngfdofjflmhhaa
