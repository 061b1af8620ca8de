import Derived.Test.YtljjfhllpbcpeaaR5Get
/-! The law's fixed calls. -/
namespace Go.Proofs.Ytljjfhllpbcpeaa
open Go.RowKit

def GetPostE (w : World) (k : Nat) (g : List By) (E : Int) (e : Ending) (w' : World) : Prop :=
  ∃ ao c, e = .returned (.tuple #[.slice ao k c, .int .i64 E]) ∧ Own w.heap.size w' (.slice ao k c) g ∧ Below w.heap.size w w'
theorem get_eq (ao : Option Addr) (n cap : Nat) (bs : List By) (hbs : bs.length = n) (k : Nat) (g : List By) (E : Int) (hg : gotB bs = g) (hk : g.length = k) (hE : gotE bs = E) (w : World) (hb : IsB w ao bs) (hn : n ≤ cap) (hl : n ≤ 281474976710656) :
    Calls Try.prog 9 #[.slice ao n cap] w fun e w' => GetPostE w k g E e w' := by
  subst hk hg hE; exact get_any ao n cap bs hbs w hb hn hl
def PutPostE (w : World) (k : Nat) (r : List By) (e : Ending) (w' : World) : Prop :=
  ∃ g, e = .returned (.slice (some ⟨g, 0, none⟩) k k) ∧ Own w.heap.size w' (.slice (some ⟨g, 0, none⟩) k k) r ∧ Below w.heap.size w w'
theorem put_eq (ao : Option Addr) (n cap : Nat) (bs : List By) (hbs : bs.length = n) (k : Nat) (hk : 2 * n = k) (r : List By) (hr : rail bs = r) (w : World) (hb : IsB w ao bs) (hl : k ≤ 281474976710656) :
    Calls Try.prog 11 #[.slice ao n cap] w fun e w' => PutPostE w k r e w' := by
  subst hk hr; exact put_own ao n cap bs hbs w hb hl

theorem dr_below {w w' : World} (d : Dr w w') : Below w.heap.size w w' := Below_dr (Below.refl _ _) d

def l1 : List By := [18#8, 255#8, 237#8, 0#8]
def l2 : List By := [1#8, 2#8]
def l3 : List By := [18#8, 255#8]
def l4 : List By := [255#8, 255#8]
theorem f_g1 : gotB l1 = l3 := by decide
theorem f_e1 : gotE l1 = 0 := by decide
theorem f_g2 : gotB l2 = [] := by decide
theorem f_e2 : gotE l2 = 5 := by decide
theorem f_p3 : rail l3 = l1 := by decide
theorem f_r0 : rightB [] = true := by decide
theorem f_r4 : rightB l4 = false := by decide
theorem f_s1 : strOf l1 = ⟨#[18, 255, 237, 0]⟩ := by decide
theorem f_s3 : strOf l3 = ⟨#[18, 255]⟩ := by decide

set_option maxHeartbeats 1000000 in
set_option maxRecDepth 100000 in
theorem fixed_any (w : World) : Calls Try.prog 8 #[] w fun e w' => e = .returned (.bool true) ∧ Below w.heap.size w w' := by
  go_enter Try.func8, Try.ntmps8
  go_wp2_with fail
  refine (get_eq (some ⟨w.heap.size, 0, none⟩) 4 4 l1 rfl 2 l3 0 f_g1 rfl f_e1 _ (row_isb (Row.at _ 5 _ _ _ rfl rfl)) (by omega) (by omega)).mono ?_
  rintro e w1 ⟨ao1, c1, rfl, o1, b1⟩
  have B1 : Hid (Below w.heap.size w w1) := ((Below.refl _ w).alloc (Nat.le_refl _) _).trans (b1.mono (by simp))
  have O1 : Hid (∀ w', Below w1.heap.size w1 w' → IsB w' ao1 l3) := fun w' h => (own_IsB o1).below h (Nat.le_refl _)
  clear o1 b1
  go_wp2_with fail
  refine (get_eq (some ⟨w1.heap.size, 0, none⟩) 2 2 l2 rfl 0 [] 5 f_g2 rfl f_e2 _ (row_isb (Row.at _ 5 _ _ _ rfl rfl)) (by omega) (by omega)).mono ?_
  rintro e w2 ⟨ao2, c2, rfl, o2, b2⟩
  have B2 : Hid (Below w1.heap.size w1 w2) := ((Below.refl _ w1).alloc (Nat.le_refl _) _).trans (b2.mono (by simp))
  clear o2 b2
  go_wp2_with fail
  refine (put_eq (some ⟨w2.heap.size, 0, none⟩) 2 2 l3 rfl 4 rfl l1 f_p3 _ (row_isb (Row.at _ 5 _ _ _ rfl rfl)) (by omega)).mono ?_
  rintro e w3 ⟨g3, rfl, o3, b3⟩
  have B3 : Below w1.heap.size w1 w3 := B2.out.trans ((((Below.refl _ w2).alloc (Nat.le_refl _) _).trans (b3.mono (by simp))).mono B2.out.size)
  have cv1 := conv_bytes w3 (some ⟨g3, 0, none⟩) 4 4 l1 rfl (own_IsB o3)
  have cv2 := conv_bytes w3 ao1 2 c1 l3 rfl (O1.out w3 B3)
  rw [f_s1] at cv1
  rw [f_s3] at cv2
  have B4 : Hid (Below w.heap.size w w3) := B1.out.trans (B3.mono B1.out.size)
  clear o3 b3 B3 B2
  go_wp2_with fail
  refine (right_eq none 0 0 [] rfl true f_r0 w3 (.inl rfl) (by omega) (by omega)).mono ?_
  rintro e w4 ⟨rfl, d4⟩
  have B5 : Hid (Below w.heap.size w w4) := B4.out.trans ((dr_below d4).mono B4.out.size)
  clear d4 cv1 cv2
  go_wp2_with fail
  refine (right_eq (some ⟨w4.heap.size, 0, none⟩) 2 2 l4 rfl false f_r4 _ (row_isb (Row.at _ 5 _ _ _ rfl rfl)) (by omega) (by omega)).mono ?_
  rintro e w5 ⟨rfl, d5⟩
  have B6 : Hid (Below w.heap.size w w5) := Below_dr (B5.out.alloc B5.out.size _) d5
  clear d5
  go_wp2
  go_ret
  exact ⟨rfl, B6.out⟩
end Go.Proofs.Ytljjfhllpbcpeaa
