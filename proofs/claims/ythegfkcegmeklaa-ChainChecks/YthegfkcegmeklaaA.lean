
import Derived.Test.YthegfkcegmeklaaRows
import Derived.Test.YthegfkcegmeklaaMem
import Derived.Deep.MidRow
import Derived.WalkKit
import Derived.WalkSpells
import Derived.WalkLawsBesides
import Derived.Deep.QuietTactic
import Derived.BigQuiet
namespace Go.Proofs.Ythegfkcegmeklaa
open Go.RowKit

set_option maxHeartbeats 400000 in
theorem turned_any (x : BitVec 32) (n : Nat) (h1 : 1 ≤ n) (h2 : n ≤ 31) (w : World) :
    Calls Try.prog 64 #[.int .u32 (x.toNat : Int), .int .i64 (n : Int)] w fun e w' => e = .returned (.int .u32 ((rr x n).toNat : Int)) ∧ ∃ m, w' = w.drewN m := by
  have a1 : (0 : Int) ≤ (n : Int) := by omega
  have a2 : (0 : Int) ≤ 32 - (n : Int) := by omega
  go_enter Try.func64, Try.ntmps64
  go_wp2
  go_quiet (fail)
  go_wp2
  go_ret
  exact ⟨ret_int (rr_of x n), _, rfl⟩

set_option maxHeartbeats 400000 in
theorem rotl_any (x : BitVec 32) (n : Nat) (h1 : 1 ≤ n) (h2 : n ≤ 31) (w : World) :
    Calls Try.prog 70 #[.int .u32 (x.toNat : Int), .int .i64 (-(n : Int))] w fun e w' => e = .returned (.int .u32 ((rr x n).toNat : Int)) ∧ w' = w := by
  have hb := and31 n h1 h2
  go_enter Try.func70, Try.ntmps70
  go_wp2
  go_ret
  exact ⟨ret_int (rr_of' x n h1 h2), rfl⟩

set_option maxHeartbeats 400000 in
theorem turn_any (x : BitVec 32) (n : Nat) (h1 : 1 ≤ n) (h2 : n ≤ 31) (w : World) :
    Calls Try.prog 68 #[.int .u32 (x.toNat : Int), .int .i64 (n : Int)] w fun e w' => e = .returned (.int .u32 ((rr x n).toNat : Int)) ∧ w' = w := by
  go_enter Try.func68, Try.ntmps68
  go_wp2_with (go_at_call 70; refine (rotl_any x n h1 h2 _).mono ?_; rintro e w' ⟨rfl, rfl⟩)
  go_ret
  exact ⟨rfl, rfl⟩

theorem turn_at (x : Wd) (n : Int) (w : World) (h1 : 1 ≤ n) (h2 : n ≤ 31) :
    Calls Try.prog 68 #[.int .u32 (x.toNat : Int), .int .i64 n] w fun e w' => e = .returned (.int .u32 ((rr x n.toNat).toNat : Int)) ∧ w' = w := by
  obtain ⟨m, rfl⟩ := Int.eq_ofNat_of_zero_le (show 0 ≤ n by omega)
  simpa using turn_any x m (by omega) (by omega) w
theorem turned_at (x : Wd) (n : Int) (w : World) (h1 : 1 ≤ n) (h2 : n ≤ 31) :
    Calls Try.prog 64 #[.int .u32 (x.toNat : Int), .int .i64 n] w fun e w' => e = .returned (.int .u32 ((rr x n.toNat).toNat : Int)) ∧ ∃ m, w' = w.drewN m := by
  obtain ⟨m, rfl⟩ := Int.eq_ofNat_of_zero_le (show 0 ≤ n by omega)
  simpa using turned_any x m (by omega) (by omega) w

set_option maxHeartbeats 400000 in
theorem wordAt_any (a b c d : By) (B off len cap : Nat) (w : World) (hl : 4 ≤ len)
   (h0 : w.cell? ⟨B, off, none⟩ = some (.int .u8 (a.toNat : Int))) (h1 : w.cell? ⟨B, off + 1, none⟩ = some (.int .u8 (b.toNat : Int)))
   (h2 : w.cell? ⟨B, off + 2, none⟩ = some (.int .u8 (c.toNat : Int))) (h3 : w.cell? ⟨B, off + 3, none⟩ = some (.int .u8 (d.toNat : Int))) :
    Calls Try.prog 69 #[.slice (some ⟨B, off, none⟩) len cap] w fun e w' => e = .returned (.int .u32 ((word4 a b c d).toNat : Int)) ∧ ∃ m, w' = w.drewN m := by
  have a1 : (0 : Int) < (len : Int) := by omega
  have a2 : (1 : Int) < (len : Int) := by omega
  have a3 : (2 : Int) < (len : Int) := by omega
  have a4 : (3 : Int) < (len : Int) := by omega
  have b1 : (a.toNat : Int) < 256 := by have := a.isLt; omega
  have b2 : (b.toNat : Int) < 256 := by have := b.isLt; omega
  have b3 : (c.toNat : Int) < 256 := by have := c.isLt; omega
  have b4 : (d.toNat : Int) < 256 := by have := d.isLt; omega
  go_enter Try.func69, Try.ntmps69
  go_wp2
  go_quiet (fail)
  go_wp2
  go_ret
  exact ⟨ret_int (word_form a b c d), _, rfl⟩

/-- The four stores of a word, the highest byte first. -/
def put4 (w : World) (B off : Nat) (x : Wd) : World :=
  ((((w.setCell ⟨B, off, none⟩ (B8 ((x >>> 24).setWidth 8))).setCell ⟨B, off + 1, none⟩ (B8 ((x >>> 16).setWidth 8))).setCell ⟨B, off + 2, none⟩ (B8 ((x >>> 8).setWidth 8))).setCell ⟨B, off + 3, none⟩ (B8 (x.setWidth 8)))

set_option maxHeartbeats 400000 in
theorem putWord_any (x : Wd) (B off len cap : Nat) (w : World) (hl : 4 ≤ len) (ht : w.there B off 4) :
    Calls Try.prog 62 #[.slice (some ⟨B, off, none⟩) len cap, .int .u32 (x.toNat : Int)] w fun e w' => e = .returned (.tuple #[]) ∧ w' = put4 w B off x := by
  have a1 : (0 : Int) < (len : Int) := by omega
  have a2 : (1 : Int) < (len : Int) := by omega
  have a3 : (2 : Int) < (len : Int) := by omega
  have a4 : (3 : Int) < (len : Int) := by omega
  obtain ⟨v0, h0⟩ := Option.isSome_iff_exists.1 (ht 0 (by omega)).1
  obtain ⟨v1, h1⟩ := Option.isSome_iff_exists.1 (ht 1 (by omega)).1
  obtain ⟨v2, h2⟩ := Option.isSome_iff_exists.1 (ht 2 (by omega)).1
  obtain ⟨v3, h3⟩ := Option.isSome_iff_exists.1 (ht 3 (by omega)).1
  have f0 := (ht 0 (by omega)).2
  have f1 := (ht 1 (by omega)).2
  have f2 := (ht 2 (by omega)).2
  have f3 := (ht 3 (by omega)).2
  rw [Nat.add_zero] at h0 f0
  have e1 : B8 ((x >>> 24).setWidth 8) = .int .u8 ((x.toNat : Int) / 16777216) := by
    have := byte_of x 24; simp only [Int.reducePow] at this
    unfold B8; rw [← this]; congr 1; have := x.isLt; omega
  have e2 : B8 ((x >>> 16).setWidth 8) = .int .u8 ((x.toNat : Int) / 65536 % 256) := by
    have := byte_of x 16; simp only [Int.reducePow] at this
    unfold B8; rw [← this]
  have e3 : B8 ((x >>> 8).setWidth 8) = .int .u8 ((x.toNat : Int) / 256 % 256) := by
    have := byte_of x 8; simp only [Int.reducePow] at this
    unfold B8; rw [← this]
  have e4 : B8 (x.setWidth 8) = .int .u8 ((x.toNat : Int) % 256) := by
    unfold B8; rw [BitVec.toNat_setWidth]; congr 1
  have e : put4 w B off x = ((((w.setCell ⟨B, off, none⟩ (.int .u8 ((x.toNat : Int) / 16777216))).setCell ⟨B, off + 1, none⟩ (.int .u8 ((x.toNat : Int) / 65536 % 256))).setCell ⟨B, off + 2, none⟩ (.int .u8 ((x.toNat : Int) / 256 % 256))).setCell ⟨B, off + 3, none⟩ (.int .u8 ((x.toNat : Int) % 256))) := by
    unfold put4; rw [e1, e2, e3, e4]
  rw [e]
  clear ht e e1 e2 e3 e4
  go_enter Try.func62, Try.ntmps62
  go_wp2
  go_end0
  exact ⟨rfl, rfl⟩

end Go.Proofs.Ythegfkcegmeklaa
