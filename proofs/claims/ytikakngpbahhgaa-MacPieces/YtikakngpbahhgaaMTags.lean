import Derived.Test.YtikakngpbahhgaaMStr
import Derived.Test.YtikakngpbahhgaaEq
namespace Go.Proofs.Ytikakngpbahhgaa
open Go.RowKit

set_option maxHeartbeats 1000000 in
set_option maxRecDepth 100000 in
theorem tags_any (ao bo : Option Addr) (na ca nb cb : Nat) (k b : List By) (hna : k.length = na) (hnb : b.length = nb) (s : ByteArray) (w : World) (hk : IsB w ao k) (hb : IsB w bo b) (hnk : ao = none → ca = 0) (hbk : bo = none → cb = 0) (hca : na ≤ ca) (hcb : nb ≤ cb)
    (hma : na ≤ 140737488351232) (hmb : nb ≤ 140737488351232) (hs : s.size ≤ 140737488351232) :
    Calls Try.prog 3 #[.slice ao na ca, .slice bo nb cb, .string s] w fun e w' => e = .returned (.bool true) ∧ Below w.heap.size w w' := by
  have HA : Hid (k.length = na) := hna
  have HB : Hid (b.length = nb) := hnb
  have IK : Hid (∀ w', Below w.heap.size w w' → IsB w' ao k) := fun w' h => hk.below h (Nat.le_refl _)
  have IB : Hid (∀ w', Below w.heap.size w w' → IsB w' bo b) := fun w' h => hb.below h (Nat.le_refl _)
  clear hna hnb hk hb
  have c1 := fun w' (h : Below w.heap.size w w') => mac_any ao bo na ca nb cb k b HA.out HB.out w' (IK.out _ h) (IB.out _ h) hca hcb (by omega) (by omega)
  have c2 := fun w' (h : Below w.heap.size w w') => refMac_any ao bo na ca nb cb k b HA.out HB.out w' (IK.out _ h) (IB.out _ h) hnk hbk (by omega) (by omega)
  have c3 := fun w' (h : Below w.heap.size w w') => derive_any ao na ca k HA.out s w' (IK.out _ h) hca (by omega) (by omega)
  have c4 := fun w' (h : Below w.heap.size w w') => refDerive_any ao na ca k HA.out s w' (IK.out _ h) hnk (by omega) (by omega)
  have q1 := eq_self (tag k b) (tag_len k b)
  have q2 := eq_self (tag k (bytesOf s ++ five)) (tag_len k _)
  generalize tag k b = t1 at *
  generalize tag k (bytesOf s ++ five) = t2 at *
  go_enter Try.func3, Try.ntmps3
  go_wp2_with fail
  refine (c1 _ (Below.refl _ _)).mono ?_
  rintro e w1 ⟨rfl, b1⟩
  go_wp2_with fail
  refine (c2 _ b1).mono ?_
  rintro e w2 ⟨rfl, hb2⟩
  have b2 := b1.trans (hb2.mono b1.size)
  go_wp2_with fail
  refine (c3 _ b2).mono ?_
  rintro e w3 ⟨rfl, hb3⟩
  have b3 := b2.trans (hb3.mono b2.size)
  go_wp2_with fail
  refine (c4 _ b3).mono ?_
  rintro e w4 ⟨rfl, hb4⟩
  have b4 := b3.trans (hb4.mono b3.size)
  go_wp2_with fail
  refine (fixed_any _).mono ?_
  rintro e w5 ⟨rfl, hb5⟩
  go_wp2
  go_ret
  exact ⟨rfl, b4.trans (hb5.mono b4.size)⟩
end Go.Proofs.Ytikakngpbahhgaa
