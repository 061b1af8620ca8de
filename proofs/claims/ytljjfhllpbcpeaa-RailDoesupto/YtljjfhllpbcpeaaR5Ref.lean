import Derived.Test.YtljjfhllpbcpeaaR5Open
/-! The document's Get and Put. -/
namespace Go.Proofs.Ytljjfhllpbcpeaa
open Go.RowKit

theorem rail_xor (x : By) : x ^^^ 255 = ~~~ x := by
  rw [show (255 : By) = BitVec.allOnes 8 by decide, BitVec.xor_allOnes]

set_option maxHeartbeats 1000000 in
set_option maxRecDepth 100000 in
theorem refGet_any (ao : Option Addr) (n cap : Nat) (bs : List By) (hbs : bs.length = n) (w : World) (hb : IsB w ao bs) (hn : n ≤ cap) (hnil : ao = none → cap = 0) (hl : n ≤ 140737488351232) :
    Calls Try.prog 10 #[.slice ao n cap] w fun e w' => GetPost w bs e w' := by
  have HL : Hid (bs.length = n) := hbs
  have HB : Hid (IsB w ao bs) := hb
  have HNIL : Hid (ao = none → cap = 0) := hnil
  clear hbs hb hnil
  by_cases hr : isRail bs
  · have hrb : rightB bs = true := by unfold rightB; rw [decide_eq_true_iff]; exact hr
    obtain ⟨h, rfl⟩ : ∃ h, n = 2 * h := ⟨n / 2, by have := hr.1; rw [HL.out] at this; omega⟩
    have e0 : (2 * (h : Int)) / 2 = (h : Int) := by omega
    have FIN : Hid (∀ e w', (∃ ao c, e = .returned (.tuple #[.slice ao h c, .int .i64 0]) ∧ Own w.heap.size w' (.slice ao h c) (bs.take h) ∧ Below w.heap.size w w') → GetPost w bs e w') := by
      rintro e w' ⟨ao, c, h1, h2, h3⟩
      have e1 : gotB bs = bs.take h := by unfold gotB; rw [if_pos hr, HL.out, show 2 * h / 2 = h by omega]
      have e2 : gotE bs = 0 := by unfold gotE; rw [if_pos hr]
      have e3 : (bs.take h).length = h := by rw [List.length_take, HL.out]; omega
      unfold GetPost
      rw [e1, e2, e3]
      exact ⟨_, c, h1, h2, h3⟩
    have HR : Hid (rightB bs = true) := hrb
    have HLT : Hid ((bs.take h).length = h) := by show _ = _; rw [List.length_take, HL.out]; omega
    clear hr hrb
    go_enter Try.func10, Try.ntmps10
    go_wp2_with fail
    refine (refRight_eq ao (2 * h) cap bs HL.out true HR.out w HB.out (by omega)).mono ?_
    rintro e w1 ⟨rfl, d1⟩
    have B1 : Hid (Below w.heap.size w w1) := dr_below d1
    have I1 : Hid (∀ o, IsB (w1.alloc o) ao (bs.take h)) := fun o => ((HB.out.dr d1).below ((Below.refl _ w1).alloc (Nat.le_refl _) o) (Nat.le_refl _)).take h
    clear d1 HR
    go_wp2_with (at_builtin; refine wpList_append_more rfl (.tmp 9) (.tmp 14) rfl w.heap.size w (some ⟨w1.heap.size, 0, none⟩) 0 0 [] rfl rfl (own_empty _ _ B1.out.size _ rfl) (B1.out.alloc B1.out.size _) ao h cap (bs.take h) rfl HLT.out (I1.out _) HNIL.out (by omega) ?_; intro ao3 c3 w3 o3 b3)
    go_ret2
    rw [Nat.zero_add, List.nil_append] at o3
    exact FIN.out _ _ ⟨ao3, c3, rfl, o3, b3⟩
  · have hrb : rightB bs = false := by unfold rightB; rw [decide_eq_false_iff_not]; exact hr
    have FIN : Hid (∀ w', Dr w w' → GetPost w bs (.returned (.tuple #[.slice none 0 0, .int .i64 5])) w') := by
      intro w' d
      have e1 : gotB bs = [] := by unfold gotB; rw [if_neg hr]
      have e2 : gotE bs = 5 := by unfold gotE; rw [if_neg hr]
      unfold GetPost
      rw [e1, e2]
      have hb := Below_dr (Below.refl w.heap.size w) d
      exact ⟨none, 0, rfl, own_nil _ _ hb.size, hb⟩
    have HR : Hid (rightB bs = false) := hrb
    clear hr hrb
    go_enter Try.func10, Try.ntmps10
    go_wp2_with fail
    refine (refRight_eq ao n cap bs HL.out false HR.out w HB.out (by omega)).mono ?_
    rintro e w1 ⟨rfl, d1⟩
    have D1 : Hid (Dr w w1) := d1
    clear d1 HR
    go_wp2
    go_ret2
    exact FIN.out _ D1.out

set_option maxHeartbeats 1000000 in
set_option maxRecDepth 100000 in
theorem refPut_any (ao : Option Addr) (n cap : Nat) (bs : List By) (hbs : bs.length = n) (w : World) (hb : IsB w ao bs) (hnil : ao = none → cap = 0) (hl : 2 * n ≤ 140737488351232) :
    Calls Try.prog 12 #[.slice ao n cap] w fun e w' => ∃ ao' c', e = .returned (.slice ao' (2 * n) c') ∧ Own w.heap.size w' (.slice ao' (2 * n) c') (rail bs) ∧ Below w.heap.size w w' := by
  have HL : Hid (bs.length = n) := hbs
  have HB : Hid (IsB w ao bs) := hb
  have HNIL : Hid (ao = none → cap = 0) := hnil
  clear hbs hb hnil
  go_enter Try.func12, Try.ntmps12
  go_wp2_with (at_builtin; refine wpList_append_more rfl (.tmp 5) (.tmp 6) rfl w.heap.size w (some ⟨w.heap.size, 0, none⟩) 0 0 [] rfl rfl (own_empty _ _ (Nat.le_refl _) _ rfl) ((Below.refl _ _).alloc (Nat.le_refl _) _) ao n cap bs rfl HL.out (HB.out.below ((Below.refl _ _).alloc (Nat.le_refl _) _) (Nat.le_refl _)) HNIL.out (by omega) ?_; intro ao1 c1 w1 o1 b1)
  rw [Nat.zero_add, List.nil_append] at o1
  have O1 : Hid (Own w.heap.size w1 (.slice ao1 n c1) bs) := o1
  have B1 : Hid (Below w.heap.size w w1) := b1
  clear o1 b1
  go_loopw [3, 4] (fun sv iv wr => ∃ p : Nat, p ≤ n ∧ iv = .int .i64 p ∧ ∃ ao' c', sv = .slice ao' (n + p) c' ∧ Own w.heap.size wr (.slice ao' (n + p) c') (bs ++ (bs.take p).map (fun x => ~~~ x)) ∧ Below w.heap.size w wr) (fun _ iv _ => n - (intOf iv).toNat)
  case atStart => exact ⟨0, by omega, rfl, ao1, c1, rfl, by simpa using O1.out, B1.out⟩
  case round =>
    obtain ⟨p, hp, rfl, ao2, c2, rfl, o2, b2⟩ := hrel
    by_cases hlt : p < n
    · have y1 : (p : Int) < (n : Int) := by omega
      have y0 : (0 : Int) ≤ (p : Int) := by omega
      obtain ⟨B, off, rfl, cc⟩ := (HB.out.below b2 (Nat.le_refl _)).cell p (by rw [HL.out]; omega)
      have hx : bs.getD p 0 = bs.getD p 0 := rfl
      have NX : Hid (bs ++ (bs.take p).map (fun x => ~~~ x) ++ [bs.getD p 0 ^^^ 255] = bs ++ (bs.take (p + 1)).map (fun x => ~~~ x)) := by
        show _ = _
        rw [List.take_add_one, List.getElem?_eq_getElem (by rw [HL.out]; omega), getD_lt (by rw [HL.out]; omega), rail_xor]
        simp only [Option.toList_some, List.map_append, List.map_cons, List.map_nil, List.append_assoc]
      have O2 : Hid (Own w.heap.size wr (.slice ao2 (n + p) c2) (bs ++ (bs.take p).map (fun x => ~~~ x))) := o2
      have B2 : Hid (Below w.heap.size w wr) := b2
      have LN : Hid ((bs ++ (bs.take p).map (fun x => ~~~ x)).length = n + p) := (own_isb o2).1
      have ny := bits8_xor (bs.getD p 0) 255
      rw [show (((255 : By).toNat : Nat) : Int) = 255 by decide] at ny
      clear o2 b2 hx
      generalize bs ++ (bs.take p).map (fun x => ~~~ x) = M at *
      generalize bs.getD p 0 = x at *
      generalize x ^^^ 255 = z at *
      go_wp2_with (at_builtin; refine wpList_append_one rfl (.tmp 14) (.tmp 20) rfl w.heap.size _ w _ M z _ rfl wr.heap.size rfl rfl rfl O2.out B2.out (n + p) LN.out (by omega) ?_; intro g4 c4 w4 o4 b4)
      rw [NX.out] at o4
      exact ⟨⟨p + 1, by omega, by simp, some ⟨g4, 0, none⟩, c4, rfl, o4, b4⟩, by simp [intOf]; omega⟩
    · have y1 : ¬ (p : Int) < (n : Int) := by omega
      obtain rfl : p = n := by omega
      go_wp2
      go_ret
      refine ⟨ao2, c2, by rw [show 2 * p = p + p by omega]; rfl, ?_, b2⟩
      rw [show 2 * p = p + p by omega]
      have : bs ++ (bs.take p).map (fun x => ~~~ x) = rail bs := by rw [← HL.out, List.take_length]; rfl
      rw [← this]; exact o2
end Go.Proofs.Ytljjfhllpbcpeaa
