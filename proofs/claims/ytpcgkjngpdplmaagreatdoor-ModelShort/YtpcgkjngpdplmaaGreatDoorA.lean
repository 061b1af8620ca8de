import Derived.Test.YtpcgkjngpdplmaaGreatDoorR4Inv
import Derived.Laws.BytesString
import Derived.StillTailTactics
import Derived.Test.YtpcgkjngpdplmaaGreatDoorRows
import Derived.Test.YtpcgkjngpdplmaaGreatDoorMem
import Derived.Deep.MidRow
import Derived.WalkKit
import Derived.WalkSpells
import Derived.WalkLawsBesides
import Derived.Deep.QuietTactic
import Derived.BigQuiet

/-! append onto an empty slice that was just made. -/
namespace Go.Proofs.YtpcgkjngpdplmaaGreatDoor
open Go.RowKit

end Go.Proofs.YtpcgkjngpdplmaaGreatDoor


/-! The reference's CopyState: what has come up of its first region. -/
namespace Go.Proofs.YtpcgkjngpdplmaaGreatDoor
open Go.RowKit

section
variable {sz : Nat} {W1 : World} {v : SV} {t : St} {L : Nat → Bool} {x3 x5 x6 x7 x8 x9 x10 x11 x12 x13 : Value} {g1 g2 g3 : Nat} {W W' : World}

end

/-- A whole struct stored into a block known whole, at a step of a drawn region. -/
theorem step_store_Row {ops : Array Oper} {o : Oper} {a : Act} {w : World} {K : Act → World → Prop} {Q : Exit → Act → World → Prop} {X : Prop} (hgd : o.guard = none) (ty : TypeId) (x y : Operand) (ho : o.op = .store ty x y)
    (g t : Nat) (old new : List Value) (hr : Row w g t old) (hl : new.length = old.length) (hx : a.eval x = .pointer (some ⟨g, 0, none⟩)) (hy : a.eval y = .agg new.toArray)
    (hi : (Tryz.prog.info? ty).map (·.size) = some new.length) (h1 : ∀ v ∈ new, v.oneCell' = true)
    (h : ∀ w', Row w' g t new → SameBut g w w' → K (a.put o.dst undef) w') : if Region.wanted o (yielded ops a.tmps) = true then Oper.wp Tryz.prog o a w K Q else X := by
  have hw : Region.wanted o (yielded ops a.tmps) = true := by simp [Region.wanted, hgd]
  rw [if_pos hw]
  refine wp_store_mid ty x y ho g 0 new.toArray hx hy ?_ (by simpa using hi) (all_oneCell_toArray h1) (h _ ?_ ?_)
  · intro j hj
    refine ⟨?_, hr.frozen _⟩
    have hj' : 0 + j < old.length := by simp at hj; omega
    rw [hr.cell (0 + j) old[0 + j] (List.getElem?_eq_getElem hj')]; rfl
  · have := Row.setCells new 0 w old hr (by omega)
    simpa [hl] using this
  · exact SameBut.setCells g new 0 w

end Go.Proofs.YtpcgkjngpdplmaaGreatDoor


/-! The reference's CopyState: what has come up of 'out.Pages = append(out.Pages, append([]Cell{}, s.Pages[p]...))'. -/
namespace Go.Proofs.YtpcgkjngpdplmaaGreatDoor
open Go.RowKit

/-- What stands still over the region. -/
structure PC where
  sz : Nat
  N : Nat
  W1 : World
  wr : World
  po : Option Addr
  k : Nat
  pc : Nat
  g3 : Nat
  B : Nat
  off : Nat
  P : Nat
  vpc : Nat
  qo : Option Addr
  n : Nat
  qc : Nat
  flat : List Value
  vs : List Value
  X1 : Value
  X2 : Value
section
variable {c : PC} {L : Nat → Bool} {x21 x22 x23 x24 x25 x26 x27 x28 x29 x30 x31 x32 : Value} {gq : Nat} {W W' : World}

end
end Go.Proofs.YtpcgkjngpdplmaaGreatDoor


/-! The reference's CopyState. -/
namespace Go.Proofs.YtpcgkjngpdplmaaGreatDoor
open Go.RowKit

end Go.Proofs.YtpcgkjngpdplmaaGreatDoor


/-! The reference's Lay. -/
namespace Go.Proofs.YtpcgkjngpdplmaaGreatDoor
open Go.RowKit

section
variable {w2 : World} {t : St} {cf sv : List Value} {L : Nat → Bool} {x18 x19 x20 x21 x22 x4 x5 : Value} {po : Option Addr} {pc : Nat} {ps : List (Nat × Nat)} {eB ec bB bc g : Nat} {W W' : World}

end

end Go.Proofs.YtpcgkjngpdplmaaGreatDoor


/-! The reference's Copy. -/
namespace Go.Proofs.YtpcgkjngpdplmaaGreatDoor
open Go.RowKit

section
variable {w : World} {F : RF} {s : RS} {L : Nat → Bool} {x3 x4 x5 x6 x7 x8 x9 x10 x11 x12 x13 x14 x15 x16 x17 x18 x19 x20 x21 x22 x23 x24 x25 x26 x27 x28 x29 x30 x31 x2 : Value} {po : Option Addr} {pc : Nat} {ps : List (Nat × Nat)} {eB ec bB bc gm mc g : Nat} {W W' : World}

end

end Go.Proofs.YtpcgkjngpdplmaaGreatDoor


/-! The code's chip: where it lies in memory. What it holds is told as the document's chip (RS); its mask is a text of its own that says the same of every byte of a page. -/
namespace Go.Proofs.YtpcgkjngpdplmaaGreatDoor
open Go.RowKit

end Go.Proofs.YtpcgkjngpdplmaaGreatDoor


/-! The code's chip: within, at of a mask, ask, askPage, askCell, askFuse, Acts, Out, Restore. -/
namespace Go.Proofs.YtpcgkjngpdplmaaGreatDoor
open Go.RowKit

set_option maxHeartbeats 1000000 in
set_option maxRecDepth 100000 in
theorem cwithin_any (n lo hi : Int) (b : Bool) (hb : decide (lo ≤ n ∧ n ≤ hi) = b) (w : World) :
    Calls Tryz.prog 24 #[.int .i64 n, .int .i64 lo, .int .i64 hi] w fun e w' => e = .returned (.bool b) ∧ w' = w := by
  have HB : Hid (decide (lo ≤ n ∧ n ≤ hi) = b) := hb
  clear hb
  by_cases h1 : lo ≤ n
  · have b1 : decide (lo ≤ n) = true := by simpa using h1
    by_cases h2 : n ≤ hi
    · have b2 : decide (n ≤ hi) = true := by simpa using h2
      go_enter Tryz.func24, Tryz.ntmps24
      go_wp2
      go_ret
      exact ⟨by rw [← HB.out]; simp [h1, h2], rfl⟩
    · have b2 : decide (n ≤ hi) = false := by simpa using h2
      go_enter Tryz.func24, Tryz.ntmps24
      go_wp2
      go_ret
      exact ⟨by rw [← HB.out]; simp [h1, h2], rfl⟩
  · have b1 : decide (lo ≤ n) = false := by simpa using h1
    go_enter Tryz.func24, Tryz.ntmps24
    go_wp2
    go_ret
    exact ⟨by rw [← HB.out]; simp; omega, rfl⟩

end Go.Proofs.YtpcgkjngpdplmaaGreatDoor


/-! The code's chip: act, lower, Program. -/
namespace Go.Proofs.YtpcgkjngpdplmaaGreatDoor
open Go.RowKit

end Go.Proofs.YtpcgkjngpdplmaaGreatDoor


/-! The code's chip: lower. (Printed by tools/genlow.py.) -/
namespace Go.Proofs.YtpcgkjngpdplmaaGreatDoor
open Go.RowKit

section
variable {w0 : World} {B o k X : Nat} {M : ByteArray} {wb xb mb nm ob nb : By} {L : Nat → Bool} {x10 x11 x12 x13 x14 x15 x16 x17 x18 x19 x20 x21 x22 x23 x24 x25 : Value} {W : World}
end
end Go.Proofs.YtpcgkjngpdplmaaGreatDoor


/-! The code's chip: Read, Program. -/
namespace Go.Proofs.YtpcgkjngpdplmaaGreatDoor
open Go.RowKit

end Go.Proofs.YtpcgkjngpdplmaaGreatDoor


/-! The code's chip: keep, Cut, Blow. -/
namespace Go.Proofs.YtpcgkjngpdplmaaGreatDoor
open Go.RowKit

/-- The string of bytes. -/
def strOf (bs : List By) : ByteArray := (bs.map fun b => (b.toNat : Int)).foldl (fun r n => r.push (UInt8.ofNat n.toNat)) ByteArray.empty
end Go.Proofs.YtpcgkjngpdplmaaGreatDoor


namespace Go.Proofs.YtpcgkjngpdplmaaGreatDoor
open Go.RowKit

set_option maxHeartbeats 400000 in
theorem rotl_any (x : BitVec 32) (n : Nat) (h1 : 1 ≤ n) (h2 : n ≤ 31) (w : World) :
    Calls Tryz.prog 131 #[.int .u32 (x.toNat : Int), .int .i64 (-(n : Int))] w fun e w' => e = .returned (.int .u32 ((rr x n).toNat : Int)) ∧ w' = w := by
  have hb := and31 n h1 h2
  go_enter Tryz.func131, Tryz.ntmps131
  go_wp2
  go_ret
  exact ⟨ret_int (rr_of' x n h1 h2), rfl⟩

set_option maxHeartbeats 400000 in
theorem turn_any (x : BitVec 32) (n : Nat) (h1 : 1 ≤ n) (h2 : n ≤ 31) (w : World) :
    Calls Tryz.prog 127 #[.int .u32 (x.toNat : Int), .int .i64 (n : Int)] w fun e w' => e = .returned (.int .u32 ((rr x n).toNat : Int)) ∧ w' = w := by
  go_enter Tryz.func127, Tryz.ntmps127
  go_wp2_with (go_at_call 131; refine (rotl_any x n h1 h2 _).mono ?_; rintro e w' ⟨rfl, rfl⟩)
  go_ret
  exact ⟨rfl, rfl⟩

theorem turn_at (x : Wd) (n : Int) (w : World) (h1 : 1 ≤ n) (h2 : n ≤ 31) :
    Calls Tryz.prog 127 #[.int .u32 (x.toNat : Int), .int .i64 n] w fun e w' => e = .returned (.int .u32 ((rr x n.toNat).toNat : Int)) ∧ w' = w := by
  obtain ⟨m, rfl⟩ := Int.eq_ofNat_of_zero_le (show 0 ≤ n by omega)
  simpa using turn_any x m (by omega) (by omega) w
set_option maxHeartbeats 400000 in
theorem wordAt_any (a b c d : By) (B off len cap : Nat) (w : World) (hl : 4 ≤ len)
   (h0 : w.cell? ⟨B, off, none⟩ = some (.int .u8 (a.toNat : Int))) (h1 : w.cell? ⟨B, off + 1, none⟩ = some (.int .u8 (b.toNat : Int)))
   (h2 : w.cell? ⟨B, off + 2, none⟩ = some (.int .u8 (c.toNat : Int))) (h3 : w.cell? ⟨B, off + 3, none⟩ = some (.int .u8 (d.toNat : Int))) :
    Calls Tryz.prog 130 #[.slice (some ⟨B, off, none⟩) len cap] w fun e w' => e = .returned (.int .u32 ((word4 a b c d).toNat : Int)) ∧ ∃ m, w' = w.drewN m := by
  have a1 : (0 : Int) < (len : Int) := by omega
  have a2 : (1 : Int) < (len : Int) := by omega
  have a3 : (2 : Int) < (len : Int) := by omega
  have a4 : (3 : Int) < (len : Int) := by omega
  have b1 : (a.toNat : Int) < 256 := by have := a.isLt; omega
  have b2 : (b.toNat : Int) < 256 := by have := b.isLt; omega
  have b3 : (c.toNat : Int) < 256 := by have := c.isLt; omega
  have b4 : (d.toNat : Int) < 256 := by have := d.isLt; omega
  go_enter Tryz.func130, Tryz.ntmps130
  go_wp2
  go_quiet (fail)
  go_wp2
  go_ret
  exact ⟨ret_int (word_form a b c d), _, rfl⟩

/-- The four stores of a word, the highest byte first. -/
def put4 (w : World) (B off : Nat) (x : Wd) : World :=
  ((((w.setCell ⟨B, off, none⟩ (B8 ((x >>> 24).setWidth 8))).setCell ⟨B, off + 1, none⟩ (B8 ((x >>> 16).setWidth 8))).setCell ⟨B, off + 2, none⟩ (B8 ((x >>> 8).setWidth 8))).setCell ⟨B, off + 3, none⟩ (B8 (x.setWidth 8)))

set_option maxHeartbeats 400000 in
theorem putWord_any (x : Wd) (B off len cap : Nat) (w : World) (hl : 4 ≤ len) (ht : w.there B off 4) :
    Calls Tryz.prog 118 #[.slice (some ⟨B, off, none⟩) len cap, .int .u32 (x.toNat : Int)] w fun e w' => e = .returned (.tuple #[]) ∧ w' = put4 w B off x := by
  have a1 : (0 : Int) < (len : Int) := by omega
  have a2 : (1 : Int) < (len : Int) := by omega
  have a3 : (2 : Int) < (len : Int) := by omega
  have a4 : (3 : Int) < (len : Int) := by omega
  obtain ⟨v0, h0⟩ := Option.isSome_iff_exists.1 (ht 0 (by omega)).1
  obtain ⟨v1, h1⟩ := Option.isSome_iff_exists.1 (ht 1 (by omega)).1
  obtain ⟨v2, h2⟩ := Option.isSome_iff_exists.1 (ht 2 (by omega)).1
  obtain ⟨v3, h3⟩ := Option.isSome_iff_exists.1 (ht 3 (by omega)).1
  have f0 := (ht 0 (by omega)).2
  have f1 := (ht 1 (by omega)).2
  have f2 := (ht 2 (by omega)).2
  have f3 := (ht 3 (by omega)).2
  rw [Nat.add_zero] at h0 f0
  have e1 : B8 ((x >>> 24).setWidth 8) = .int .u8 ((x.toNat : Int) / 16777216) := by
    have := byte_of x 24; simp only [Int.reducePow] at this
    unfold B8; rw [← this]; congr 1; have := x.isLt; omega
  have e2 : B8 ((x >>> 16).setWidth 8) = .int .u8 ((x.toNat : Int) / 65536 % 256) := by
    have := byte_of x 16; simp only [Int.reducePow] at this
    unfold B8; rw [← this]
  have e3 : B8 ((x >>> 8).setWidth 8) = .int .u8 ((x.toNat : Int) / 256 % 256) := by
    have := byte_of x 8; simp only [Int.reducePow] at this
    unfold B8; rw [← this]
  have e4 : B8 (x.setWidth 8) = .int .u8 ((x.toNat : Int) % 256) := by
    unfold B8; rw [BitVec.toNat_setWidth]; congr 1
  have e : put4 w B off x = ((((w.setCell ⟨B, off, none⟩ (.int .u8 ((x.toNat : Int) / 16777216))).setCell ⟨B, off + 1, none⟩ (.int .u8 ((x.toNat : Int) / 65536 % 256))).setCell ⟨B, off + 2, none⟩ (.int .u8 ((x.toNat : Int) / 256 % 256))).setCell ⟨B, off + 3, none⟩ (.int .u8 ((x.toNat : Int) % 256))) := by
    unfold put4; rw [e1, e2, e3, e4]
  rw [e]
  clear ht e e1 e2 e3 e4
  go_enter Tryz.func118, Tryz.ntmps118
  go_wp2
  go_end0
  exact ⟨rfl, rfl⟩

end Go.Proofs.YtpcgkjngpdplmaaGreatDoor
