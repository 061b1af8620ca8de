import Derived.Test.YtljjfhllpbcpeaaR5Math
/-! rail.halves. -/
namespace Go.Proofs.Ytljjfhllpbcpeaa
open Go.RowKit

set_option maxHeartbeats 1000000 in
set_option maxRecDepth 100000 in
theorem halves_any (ao : Option Addr) (n cap : Nat) (w : World) (hn : n ≤ cap) (hl : n ≤ 281474976710656) :
    Calls Try.prog 19 #[.slice ao n cap] w fun e w' => ∃ ao1 ao2, e = .returned (.tuple #[.slice ao1 (n / 2) (n / 2), .slice ao2 (n / 2) (n / 2)]) ∧ Dr w w' ∧ (0 < n / 2 → ∀ B off, ao = some ⟨B, off, none⟩ → ao1 = some ⟨B, off, none⟩ ∧ ao2 = some ⟨B, off + n / 2, none⟩) := by
  have e2 : 2 * (n / 2) - n / 2 = n / 2 := by omega
  go_enter Try.func19, Try.ntmps19
  go_wp2
  go_quiet (fail)
  rw [e2]
  have e3 : ∀ B off : Nat, 0 < n / 2 → ao = some ⟨B, off, none⟩ → (if 2 * (n / 2) = n / 2 then ao else Option.map (fun x => x.add (n / 2)) ao) = some ⟨B, off + n / 2, none⟩ := by
    intro B off h1 h2
    rw [if_neg (by omega), h2, Option.map_some, Addr.add_mid]
  have E3 : Hid _ := e3
  clear e2 e3
  generalize (if 2 * (n / 2) = n / 2 then ao else Option.map (fun x => x.add (n / 2)) ao) = ao2 at E3 ⊢
  go_wp2
  go_ret2
  exact ⟨ao, ao2, rfl, ⟨_, rfl⟩, fun h0 B off h1 => ⟨h1, E3.out B off h0 h1⟩⟩

theorem halves_two (ao : Option Addr) (h cap : Nat) (w : World) (hn : 2 * h ≤ cap) (hl : 2 * h ≤ 281474976710656) :
    Calls Try.prog 19 #[.slice ao (2 * h) cap] w fun e w' => ∃ ao1 ao2, e = .returned (.tuple #[.slice ao1 h h, .slice ao2 h h]) ∧ Dr w w' ∧ (0 < h → ∀ B off, ao = some ⟨B, off, none⟩ → ao1 = some ⟨B, off, none⟩ ∧ ao2 = some ⟨B, off + h, none⟩) := by
  have := halves_any ao (2 * h) cap w hn hl
  rwa [show 2 * h / 2 = h by omega] at this

theorem Dr.cell {w w' : World} {a : Addr} {v : Value} (d : Dr w w') (h : w.cell? a = some v) : w'.cell? a = some v := by
  obtain ⟨n, rfl⟩ := d; exact h
theorem IsB.dr {w w' : World} {ao : Option Addr} {m : List By} (h : IsB w ao m) (d : Dr w w') : IsB w' ao m := by
  obtain ⟨n, rfl⟩ := d; exact h
theorem not8 (y : By) : bits .xor .u8 (if IntKind.u8.signed = true then -1 else IntKind.u8.max) (y.toNat : Int) = ((~~~y).toNat : Int) := by
  have h1 : (if IntKind.u8.signed = true then (-1 : Int) else IntKind.u8.max) = ((255#8).toNat : Int) := by decide
  rw [h1, bits8_xor, show (255#8 : By) = BitVec.allOnes 8 by decide, BitVec.allOnes_xor]
theorem ne8 {x y : By} (h : ¬ x = y) : (((x.toNat : Int) != (y.toNat : Int)) = true) := by
  rw [bne_iff_ne]
  intro e
  exact h (BitVec.eq_of_toNat_eq (by omega))
theorem eq8 {x y : By} (h : x = y) : (((x.toNat : Int) != (y.toNat : Int)) = false) := by subst h; simp
end Go.Proofs.Ytljjfhllpbcpeaa
