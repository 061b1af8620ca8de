import Derived.Test.YtkcbhikhcgobkaaFixed
import Derived.Test.YtkcbhikhcgobkaaEq
import Derived.Deep.RegionHeld3
namespace Go.Proofs.Ytkcbhikhcgobkaa
open Go.RowKit

theorem of_n (ao : Option Addr) (cap n : Nat) (m : List By) (hn : m.length = n) (sm : List By) (hsm : sha m = sm) (w : World) (hb : IsB w ao m) (hcap : n ≤ cap) (hm : n ≤ 140737488351232) :
    Calls Try.prog 5 #[.slice ao n cap] w fun e w' => e = .returned (.agg (sm.map B8).toArray) ∧ Below w.heap.size w w' := by
  subst hn; subst hsm; exact of_any ao cap m w hb hcap hm
theorem ref_n (ao : Option Addr) (cap n : Nat) (m : List By) (hn : m.length = n) (sm : List By) (hsm : sha m = sm) (w : World) (hb : IsB w ao m) (hnil : ao = none → cap = 0) (hm : n ≤ 140737488351232) :
    Calls Try.prog 6 #[.slice ao n cap] w fun e w' => e = .returned (.agg (sm.map B8).toArray) ∧ Below w.heap.size w w' := by
  subst hn; subst hsm; exact refOf_any ao cap m w hb hnil hm
theorem IsB.take {w : World} {ao : Option Addr} {m : List By} (h : IsB w ao m) (k : Nat) : IsB w ao (m.take k) := by
  rcases h with rfl | ⟨B, off, rfl, hc⟩
  · exact .inl (by simp)
  · refine .inr ⟨B, off, rfl, fun j v hj => hc j v ?_⟩
    rw [List.getElem?_take] at hj
    split at hj
    · exact hj
    · cases hj

set_option maxHeartbeats 1000000 in
set_option maxRecDepth 100000 in
theorem law_any (ao : Option Addr) (cap : Nat) (m : List By) (n : Int) (w : World) (hb : IsB w ao m) (hnil : ao = none → cap = 0) (hcap : m.length ≤ cap) (hm : m.length ≤ 140737488351232) :
    Calls Try.prog 3 #[.slice ao m.length cap, .int .i64 n] w fun e w' => e = .returned (.bool true) ∧ Below w.heap.size w w' := by
  generalize hL : m.length = L at *
  have HL : Hid (m.length = L) := hL
  clear hL
  generalize hsm : sha m = sm
  have HS : Hid (sha m = sm) := hsm
  have hq1 := eq_self sm (by rw [← hsm]; rfl)
  clear hsm
  go_enter Try.func3, Try.ntmps3
  go_wp2_with fail
  refine (of_n ao cap L m HL.out sm HS.out _ hb hcap hm).mono ?_
  rintro e w1 ⟨rfl, hb1⟩
  go_wp2_with fail
  refine (ref_n ao cap L m HL.out sm HS.out _ (hb.below hb1 (Nat.le_refl _)) hnil hm).mono ?_
  rintro e w2 ⟨rfl, hb2⟩
  have b2 : Below w.heap.size w w2 := hb1.trans (hb2.mono hb1.size)
  have ib2 : IsB w2 ao m := hb.below b2 (Nat.le_refl _)
  clear hb1 hb2 hb
  by_cases h1 : 0 ≤ n
  · by_cases h2 : n ≤ (L : Int)
    · obtain ⟨k, rfl⟩ := Int.eq_ofNat_of_zero_le h1
      have hkL : k ≤ L := by omega
      have g1 : decide ((0 : Int) ≤ (k : Int)) = true := by simp
      have g2 : decide ((k : Int) ≤ (L : Int)) = true := by simp; omega
      have hlk : Hid ((m.take k).length = k) := by show _ = _; rw [List.length_take, HL.out]; omega
      have ibk : ∀ w', Below w2.heap.size w2 w' → IsB w' ao (m.take k) := fun w' h => (ib2.below h (Nat.le_refl _)).take k
      have IB : Hid (∀ w', Below w2.heap.size w2 w' → IsB w' ao (m.take k)) := ibk
      clear ibk ib2
      generalize m.take k = mk at *
      generalize hsk : sha mk = sk
      have HK : Hid (sha mk = sk) := hsk
      have hq2 := eq_self sk (by rw [← hsk]; rfl)
      clear hsk
      go_wp2
      have c1 : ((k : Int) ≤ (cap : Int)) := by omega
      go_region_held3 (fun _ => True) (trivial) (first | (go_at_call 5; refine (of_n ao cap k mk hlk.out sk HK.out _ (IB.out _ (Below.refl _ _).drew) (by omega) (by omega)).mono ?_; rintro e w3 ⟨rfl, hb3⟩; have b3 : Below w2.heap.size w2 w3 := ((Below.refl _ _).drew).trans hb3) | (go_at_call 6; refine (ref_n ao cap k mk hlk.out sk HK.out _ (IB.out _ b3) hnil (by omega)).mono ?_; rintro e w4 ⟨rfl, hb4⟩))
      have b4 : Below w.heap.size w w4 := (b2.trans (b3.mono b2.size)).trans (hb4.mono (Nat.le_trans b2.size b3.size))
      clear hb3 hb4 b3
      go_wp2_with fail
      refine (fixed_any _).mono ?_
      rintro e w5 ⟨rfl, hb5⟩
      go_wp2
      go_ret
      exact ⟨rfl, b4.trans (hb5.mono b4.size)⟩
    · have g1 : decide ((0 : Int) ≤ n) = true := by simpa using h1
      have g2 : decide (n ≤ (L : Int)) = false := by simpa using h2
      clear h1 h2
      go_wp2
      go_quiet (fail)
      go_wp2_with fail
      refine (fixed_any _).mono ?_
      rintro e w3 ⟨rfl, hb3⟩
      go_wp2
      go_ret
      exact ⟨rfl, (Below_drewN b2 nq).trans (hb3.mono b2.size)⟩
  · have g1 : decide ((0 : Int) ≤ n) = false := by simpa using h1
    clear h1
    go_wp2
    go_quiet (fail)
    go_wp2_with fail
    refine (fixed_any _).mono ?_
    rintro e w3 ⟨rfl, hb3⟩
    go_wp2
    go_ret
    exact ⟨rfl, (Below_drewN b2 nq).trans (hb3.mono b2.size)⟩
end Go.Proofs.Ytkcbhikhcgobkaa
