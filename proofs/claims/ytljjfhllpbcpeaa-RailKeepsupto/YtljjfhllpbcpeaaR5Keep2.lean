import Derived.Test.YtljjfhllpbcpeaaR5Keeps
/-! RailKeeps: what is handed in stays, room and all; answers are new memory. -/
namespace Go.Proofs.Ytljjfhllpbcpeaa
open Go.RowKit

theorem enters_put (args : Array Value) (w : World) : (callFunc 11 args).run Try.prog w = .ok (.enter 11 args) w := by
  have h1 : (Try.f11.name == "runtime.NumGoroutine") = false := by kernel_rfl
  have h2 : Try.f11.body.isNone = false := by kernel_rfl
  rw [beq_eq_false_iff_ne] at h1
  have h3 : ¬ Try.f11.body = none := fun e => by rw [e] at h2; cases h2
  simp [callFunc, Try.func11, if_neg h1, if_neg h3]
theorem enters_got (args : Array Value) (w : World) : (callFunc 17 args).run Try.prog w = .ok (.enter 17 args) w := by
  have h1 : (Try.f17.name == "runtime.NumGoroutine") = false := by kernel_rfl
  have h2 : Try.f17.body.isNone = false := by kernel_rfl
  rw [beq_eq_false_iff_ne] at h1
  have h3 : ¬ Try.f17.body = none := fun e => by rw [e] at h2; cases h2
  simp [callFunc, Try.func17, if_neg h1, if_neg h3]

theorem put_call (b : List By) (n : Nat) (hb : b.length = n) (hl : n ≤ 2097152) : IsCall 11 b (rail b) (2 * n) := by
  intro ao n' cap w h1 h2 _
  subst h1
  subst hb
  refine (put_own ao b.length cap b rfl w h2 (by omega)).mono ?_
  rintro e w' ⟨g, h1, h2, h3⟩
  exact ⟨_, _, h1, h2, h3⟩

set_option maxHeartbeats 1000000 in
set_option maxRecDepth 100000 in
theorem got_any (ao : Option Addr) (n cap : Nat) (b g : List By) (k : Nat) (E : Int) (hb : b.length = n) (hg : gotB b = g) (hk : g.length = k) (hE : gotE b = E) (w : World) (ib : IsB w ao b) (hn : n ≤ cap) (hl : n ≤ 2097152) :
    Calls Try.prog 17 #[.slice ao n cap] w fun e w' => KPostE w k g e w' := by
  have HB : Hid (b.length = n) := hb
  have HG : Hid (gotB b = g) := hg
  have HK : Hid (g.length = k) := hk
  have HE : Hid (gotE b = E) := hE
  have IB : Hid (IsB w ao b) := ib
  clear hb hg hk hE ib
  go_enter Try.func17, Try.ntmps17
  go_wp2_with fail
  refine (get_eq ao n cap b HB.out k g E HG.out HK.out HE.out w IB.out hn (by omega)).mono ?_
  rintro e w1 ⟨ao1, c1, rfl, o1, b1⟩
  have P1 : Hid (Own w.heap.size w1 (.slice ao1 k c1) g ∧ Below w.heap.size w w1) := ⟨o1, b1⟩
  clear o1 b1
  go_wp2
  go_ret
  exact ⟨ao1, c1, rfl, P1.out.1, P1.out.2⟩
theorem got_call (b g : List By) (n k : Nat) (hb : b.length = n) (hg : gotB b = g) (hk : g.length = k) (hl : n ≤ 2097152) : IsCall 17 b g k := by
  intro ao n' cap w h1 h2 h3
  exact got_any ao n' cap b g k _ h1 hg hk rfl w h2 h3 (by omega)

set_option maxHeartbeats 1000000 in
set_option maxRecDepth 100000 in
theorem railKeeps_any (ao : Option Addr) (n cap : Nat) (b : List By) (hb : b.length = n) (w : World) (ib : IsB w ao b) (hnil : ao = none → cap = 0) (hl : n ≤ 1048576) :
    Calls Try.prog 7 #[.slice ao n cap] w fun e w' => e = .returned (.bool true) ∧ Below w.heap.size w w' := by
  have HB : Hid (b.length = n) := hb
  have HNIL : Hid (ao = none → cap = 0) := hnil
  have IB : Hid (∀ w', Below w.heap.size w w' → IsB w' ao b) := fun w' h => ib.below h (Nat.le_refl _)
  have RL : Hid ((rail b).length = 2 * n) := by show _ = _; rw [rail_len, HB.out]
  have GR : Hid (gotB (rail b) = b) := by
    show _ = _
    unfold gotB; rw [if_pos (isRail_rail b), rail_half]
  have GL : Hid ((gotB b).length ≤ n) := by have := gotB_len b; rw [HB.out] at this; exact this
  clear hb hnil ib
  go_enter Try.func7, Try.ntmps7
  go_wp2_with fail
  refine (keeps_any 11 enters_put b (rail b) (2 * n) (put_call b n HB.out (by omega)) RL.out (by omega) ao n cap HB.out w (IB.out _ (Below.refl _ _)) HNIL.out (by omega)).mono ?_
  rintro e w1 ⟨rfl, b1⟩
  have B1 : Hid (Below w.heap.size w w1) := b1
  clear b1
  go_wp2_with fail
  refine (keeps_any 17 enters_got b (gotB b) (gotB b).length (got_call b (gotB b) n _ HB.out rfl rfl (by omega)) rfl (by have := GL.out; omega) ao n cap HB.out w1 (IB.out _ B1.out) HNIL.out (by omega)).mono ?_
  rintro e w2 ⟨rfl, b2⟩
  have B2 : Hid (Below w.heap.size w w2) := B1.out.trans (b2.mono B1.out.size)
  clear b2
  go_wp2_with fail
  refine (refPut_any ao n cap b HB.out w2 (IB.out _ B2.out) HNIL.out (by omega)).mono ?_
  rintro e w3 ⟨ao3, c3, rfl, o3, b3⟩
  have B3 : Hid (Below w.heap.size w w3) := B2.out.trans (b3.mono B2.out.size)
  have O3 : Hid (Own w2.heap.size w3 (.slice ao3 (2 * n) c3) (rail b)) := o3
  clear b3 o3
  go_wp2_with fail
  refine (keeps_any 17 enters_got (rail b) b n (got_call (rail b) b (2 * n) n RL.out GR.out HB.out (by omega)) HB.out (by omega) ao3 (2 * n) c3 RL.out w3 (own_IsB O3.out) (own_isb O3.out).2.1 (by omega)).mono ?_
  rintro e w4 ⟨rfl, b4⟩
  have B4 : Hid (Below w.heap.size w w4) := B3.out.trans (b4.mono B3.out.size)
  clear b4
  go_wp2_with fail
  refine (fixed_any w4).mono ?_
  rintro e w5 ⟨rfl, b5⟩
  have B5 : Hid (Below w.heap.size w w5) := B4.out.trans (b5.mono B4.out.size)
  clear b5
  go_wp2
  go_ret
  exact ⟨rfl, B5.out⟩
end Go.Proofs.Ytljjfhllpbcpeaa
