
import Derived.Test.YtepafpnpmpijeaaK12Awake
import Derived.Test.YtepafpnpmpijeaaK12Ans
/-! KeysTells, KeysNames. -/
namespace Go.Proofs.Ytepafpnpmpijeaa
open Go.RowKit
set_option linter.unusedVariables false

theorem secE_256 {l : Secs} {i : Nat} (h : secE l i = none) : (l.getD i (0, [])).2.length ≤ 256 := by
  unfold secE at h
  by_cases h1 : (l.getD i (0, [])).1 < 0 ∨ 63 < (l.getD i (0, [])).1
  · rw [if_pos h1] at h; cases h
  · rw [if_neg h1] at h
    by_cases h2 : (l.getD i (0, [])).2.length < 1 ∨ 256 < (l.getD i (0, [])).2.length
    · rw [if_pos h2] at h; cases h
    · omega
theorem newE_256 {l : Secs} (h : newE l = none) : ∀ i, i < l.length → (l.getD i (0, [])).2.length ≤ 256 := fun i hi => secE_256 ((newE_none h).2 i hi)
def askLen (xs : List AskV) (i : Nat) : Nat := match xs[i]? with | some a => a.b.length | none => 0
theorem ask_beyond {w : World} {B off : Nat} {xs : List AskV} (h : AskIn w B off xs) (qo : Option Addr) (n : Nat) (hn : xs.length = n) (hqo : 0 < n → qo = some ⟨B, off, none⟩) (i : Nat) (hi : i < n) :
    ∃ B off bo cb, qo = some ⟨B, off, none⟩ ∧ w.cell? ⟨B, off + i * 34 + 1, none⟩ = some (.slice bo (askLen xs i) cb) ∧ askLen xs i ≤ 140737488355328 := by
  obtain ⟨a, ha⟩ : ∃ a, xs[i]? = some a := ⟨_, List.getElem?_eq_getElem (by omega)⟩
  have e : askLen xs i = a.b.length := by unfold askLen; rw [ha]
  refine ⟨B, off, a.bo, a.cb, hqo (by omega), ?_, ?_⟩
  · rw [e]; exact h.cells i a ha 1 _ rfl
  · rw [e]; exact Nat.le_trans (h.ok i a ha).big (by omega)

set_option maxHeartbeats 1000000 in
set_option maxRecDepth 100000 in
theorem names_any (w : World) : Calls Try.prog 3 #[] w fun e w' => e = .returned (.bool true) ∧ Below w.heap.size w w' := by
  have A := awake_any w
  go_enter Try.func3, Try.ntmps3
  go_wp2_with fail
  refine A.mono ?_
  rintro e w1 ⟨rfl, b1⟩
  have HB : Hid (Below w.heap.size w w1) := b1
  clear A b1
  go_wp2
  go_ret
  exact ⟨rfl, HB.out⟩

set_option maxHeartbeats 1000000 in
set_option maxRecDepth 100000 in
theorem tells_any (w : World) (ao : Option Addr) (n cap B off : Nat) (vs : List Value) (l : Secs) (hn : l.length = n) (hao : 0 < n → ao = some ⟨B, off, none⟩) (hin : SecIn w B off vs l)
    (qo : Option Addr) (m qc D dff : Nat) (xs : List AskV) (hm : xs.length = m) (hm47 : m ≤ 140737488355328) (hqo : 0 < m → qo = some ⟨D, dff, none⟩) (has : AskIn w D dff xs) :
    Calls Try.prog 4 #[.slice ao n cap, .slice qo m qc] w fun e w' => e = .returned (.bool true) ∧ Below w.heap.size w w' := by
  have A := awake_any w
  have HIN : Hid (∀ W, Below w.heap.size w W → SecIn W B off vs l) := fun W h => hin.keep h
  have HAS : Hid (∀ W, Below w.heap.size w W → AskIn W D dff xs) := fun W h => has.keep h
  have HAO : Hid (0 < n → ao = some ⟨B, off, none⟩) := hao
  have HQO : Hid (0 < m → qo = some ⟨D, dff, none⟩) := hqo
  have HN : Hid (l.length = n) := hn
  have HM : Hid (xs.length = m) := hm
  have HM47 : Hid (m ≤ 140737488355328) := hm47
  clear hin has hao hqo hn hm hm47
  go_enter Try.func4, Try.ntmps4
  go_wp2_with fail
  refine A.mono ?_
  clear A
  rintro e w1 ⟨rfl, b1⟩
  have HB1 : Hid (Below w.heap.size w w1) := b1
  clear b1
  have BY := beyond_any w1 qo m qc (askLen xs) (ask_beyond (HAS.out _ HB1.out) qo m HM.out HQO.out) HM47.out
  go_wp2_with fail
  refine BY.mono ?_
  clear BY
  rintro e w2 ⟨r, rfl, rfl, _⟩
  cases r with
  | true =>
    go_wp2
    go_ret
    exact ⟨rfl, HB1.out⟩
  | false =>
    have C := cnew_any w2 ao n cap B off vs l HN.out HAO.out (HIN.out _ HB1.out)
    go_wp2_with fail
    refine C.mono ?_
    clear C
    rintro e w3 ⟨b3, h3⟩
    have HB3 : Hid (Below w.heap.size w w3) := HB1.out.trans (b3.mono HB1.out.size)
    clear b3
    have R := rnew_any w3 ao n cap B off vs l HN.out HAO.out (HIN.out _ HB3.out)
    rcases h3 with ⟨er, i, hne, rfl⟩ | ⟨hne, g, b, cs, rfl, hk⟩
    · have HE : Hid (newE l = some (er, i)) := hne
      clear hne
      go_wp2_with fail
      refine R.mono ?_
      clear R
      rintro e w4 ⟨b4, h4⟩
      have HB4 : Hid (Below w.heap.size w w4) := HB3.out.trans (b4.mono HB3.out.size)
      clear b4
      rcases h4 with ⟨er2, i2, hne2, rfl⟩ | ⟨hne2, _⟩
      · rw [HE.out] at hne2
        injection hne2 with hne2
        injection hne2 with e1 e2
        subst e1 e2
        go_wp2
        go_ret
        exact ⟨rfl, HB4.out⟩
      · rw [HE.out] at hne2; cases hne2
    · have HE : Hid (newE l = none) := hne
      have HK : Hid (KgO _ _ w3 g b cs l) := hk
      clear hne hk
      go_wp2_with fail
      refine R.mono ?_
      clear R
      rintro e w4 ⟨b4, h4⟩
      have HB4 : Hid (Below w.heap.size w w4) := HB3.out.trans (b4.mono HB3.out.size)
      have HK4 : Hid (KgO _ _ w4 g b cs l) := HK.out.below b4
      clear b4
      rcases h4 with ⟨er2, i2, hne2, _⟩ | ⟨_, ao2, cap2, vs2, rfl, hr⟩
      · rw [HE.out] at hne2; cases hne2
      · have AN := answers_any HK4.out hr.to (newE_none HE.out).1 (newE_256 HE.out) qo m qc D dff xs HM.out HM47.out HQO.out (HAS.out _ HB4.out)
        clear hr
        go_wp2_with fail
        refine AN.mono ?_
        clear AN
        rintro e w5 ⟨rfl, b5⟩
        have HB5 : Hid (Below w.heap.size w w5) := HB4.out.trans (b5.mono HB4.out.size)
        clear b5
        go_wp2
        go_ret
        exact ⟨rfl, HB5.out⟩

end Go.Proofs.Ytepafpnpmpijeaa
