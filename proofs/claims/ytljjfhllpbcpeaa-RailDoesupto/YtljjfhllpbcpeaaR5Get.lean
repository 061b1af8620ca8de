import Derived.Test.YtljjfhllpbcpeaaR5Put
/-! rail.Get, and the document's. -/
namespace Go.Proofs.Ytljjfhllpbcpeaa
open Go.RowKit

theorem row_isb {w : World} {g t : Nat} {l : List By} (h : Row w g t (l.map B8)) : IsB w (some ⟨g, 0, none⟩) l :=
  .inr ⟨g, 0, rfl, fun j v hj => by
    rw [Nat.zero_add]
    exact h.cell j (B8 v) (by rw [List.getElem?_map, hj]; rfl)⟩
theorem row_own {N : Nat} {w : World} {g n : Nat} {m : List By} (h : Row w g 5 (m.map B8)) (hN : N ≤ g) (hn : m.length = n) (hl : n ≤ 281474976710656) : Own N w (.slice (some ⟨g, 0, none⟩) n n) m := by
  subst hn
  refine ⟨⟨by simp, .inr ⟨g, m.length, (m.map B8).toArray, rfl, hN, h, Nat.le_refl _, by unfold maxLen; omega, by simp, by simp [List.take_of_length_le]⟩⟩, ?_⟩
  have := h.lt; omega

/-- What Put leaves. -/
def PutPost (w : World) (n : Nat) (bs : List By) (e : Ending) (w' : World) : Prop :=
  ∃ g, e = .returned (.slice (some ⟨g, 0, none⟩) (2 * n) (2 * n)) ∧ Own w.heap.size w' (.slice (some ⟨g, 0, none⟩) (2 * n) (2 * n)) (rail bs) ∧ Below w.heap.size w w'
theorem put_own (ao : Option Addr) (n cap : Nat) (bs : List By) (hbs : bs.length = n) (w : World) (hb : IsB w ao bs) (hl : 2 * n ≤ 281474976710656) :
    Calls Try.prog 11 #[.slice ao n cap] w fun e w' => PutPost w n bs e w' := by
  refine (put_any ao n cap bs hbs w hb hl).mono ?_
  rintro e w' ⟨g, h1, h2, h3, h4⟩
  exact ⟨g, h1, row_own h2 h3 (by rw [rail_len, hbs]) hl, h4⟩

theorem run_copy_bytes (w : World) (ty g n dCap : Nat) (sp : Option Addr) (sCap : Nat) (old : List Value) (bs : List By) (hr : Row w g 5 old) (hl : old.length = n) (hbs : bs.length = n) (hsrc : IsB w sp bs) :
    ∃ w', (Builtin.copy_ #[23, 23] ty #[.slice (some ⟨g, 0, none⟩) n dCap, .slice sp n sCap]).run Try.prog w = .ok (goInt n) w' ∧ Row w' g 5 (bs.map B8) ∧ SameBut g w w' := by
  obtain ⟨i, hq, hz0, hi, hz2⟩ := info_parts Try.infoU8
  have hu := Try.underlying23
  have key : ∀ a : Addr, (∀ j v, (bs.map B8)[j]? = some v → w.cell? (a.add j) = some v) → ∃ w', (Builtin.copy_ #[23, 23] ty #[.slice (some ⟨g, 0, none⟩) n dCap, .slice (some a) n sCap]).run Try.prog w = .ok (goInt n) w' ∧ Row w' g 5 (bs.map B8) ∧ SameBut g w w' := by
    intro a hsrc
    have hld := run_loadCells_list (P := Try.prog) w a (bs.map B8) hsrc
    have hst := run_storeCells_at Try.prog g 0 5 (bs.map B8) 0 old.toArray w hr (by simp [hl, hbs]) (B8_one bs)
    have e : ((old.toArray.toList.take (0 + 0)) ++ bs.map B8 ++ old.toArray.toList.drop (0 + 0 + (bs.map B8).length)).toArray = (bs.map B8).toArray := by
      have : old.drop bs.length = [] := List.drop_eq_nil_of_le (by omega)
      simp [this]
    rw [e] at hst
    rw [List.length_map, hbs] at hld
    refine ⟨w.setRow g (bs.map B8).toArray, ?_, setRow_heap w g old.toArray (bs.map B8).toArray 5 (0, 0) hr, ⟨rfl, rfl, rfl, by simp [World.setRow], fun k hk => setRow_other w g k _ hk⟩⟩
    simp [Builtin.copy_, run_underlying hu, Builtin.lenOf, Builtin.firstCells, sizeOf, typeInfo, hq, hi, hld, hst]
  rcases hsrc with h0 | ⟨B, off, rfl, hc⟩
  · subst h0
    have hn0 : n = 0 := by simpa using hbs.symm
    cases sp with
    | some a => exact key a (by simp)
    | none =>
      subst hn0
      have ho : old = [] := List.eq_nil_of_length_eq_zero hl
      refine ⟨w, ?_, by rw [ho] at hr; exact hr, SameBut.refl _ _⟩
      simp [Builtin.copy_, run_underlying hu, Builtin.lenOf, Builtin.firstCells, sizeOf, typeInfo, hq, storeCells]
  · refine key _ (fun j u hu => ?_)
    rw [Addr.add_mid]
    rw [List.getElem?_map] at hu
    cases hj : bs[j]? with
    | none => rw [hj] at hu; cases hu
    | some v => rw [hj] at hu; injection hu with hu; subst hu; exact hc j v hj

theorem wpList_copy_bytes {ops : Array Oper} {rest : List Oper} {o : Oper} {a : Act} {w : World} {Q : Exit → Act → World → Prop} (hgd : o.guard = none) (d s : Operand)
    (ho : o.op = .call { callee := .builtin .copy, args := #[d, s], argTypes := #[23, 23] })
    (g n dCap : Nat) (sp : Option Addr) (sCap : Nat) (hd : a.eval d = .slice (some ⟨g, 0, none⟩) n dCap) (hsv : a.eval s = .slice sp n sCap) (old : List Value) (bs : List By)
    (hr : Row w g 5 old) (hl : old.length = n) (hbs : bs.length = n) (hsrc : IsB w sp bs)
    (h : ∀ w', Row w' g 5 (bs.map B8) → SameBut g w w' → wpList Try.prog ops Q rest (a.put o.dst (goInt n)) w') : wpList Try.prog ops Q (o :: rest) a w := by
  refine wpList_plain hgd fun K hK => ?_
  obtain ⟨w', hrun, h2, h3⟩ := run_copy_bytes w o.type g n dCap sp sCap old bs hr hl hbs hsrc
  unfold Oper.wp
  simp [execOp, ho, resolve, invoke, builtin, hd, hsv, hrun, Result.andThen]
  exact hK _ _ (h w' h2 h3)

theorem right_eq (ao : Option Addr) (n cap : Nat) (bs : List By) (hbs : bs.length = n) (r : Bool) (hr : rightB bs = r) (w : World) (hb : IsB w ao bs) (hn : n ≤ cap) (hl : n ≤ 281474976710656) :
    Calls Try.prog 13 #[.slice ao n cap] w fun e w' => e = .returned (.bool r) ∧ Dr w w' := by
  subst hr; exact right_any ao n cap bs hbs w hb hn hl
theorem refRight_eq (ao : Option Addr) (n cap : Nat) (bs : List By) (hbs : bs.length = n) (r : Bool) (hr : rightB bs = r) (w : World) (hb : IsB w ao bs) (hl : n ≤ 281474976710656) :
    Calls Try.prog 14 #[.slice ao n cap] w fun e w' => e = .returned (.bool r) ∧ Dr w w' := by
  subst hr; exact refRight_any ao n cap bs hbs w hb hl
theorem below_eq (ao bo : Option Addr) (na nb ca cb : Nat) (a b : List By) (hna : a.length = na) (hnb : b.length = nb) (r : Bool) (hr : belowB a b = r) (w : World) (ha : IsB w ao a) (hb : IsB w bo b) (hla : na ≤ 281474976710656) :
    Calls Try.prog 15 #[.slice ao na ca, .slice bo nb cb] w fun e w' => e = .returned (.bool r) ∧ Dr w w' := by
  subst hr; exact below_any ao bo na nb ca cb a b hna hnb w ha hb hla
theorem refBelow_eq (ao bo : Option Addr) (na nb ca cb : Nat) (a b : List By) (hna : a.length = na) (hnb : b.length = nb) (r : Bool) (hr : belowB a b = r) (w : World) (ha : IsB w ao a) (hb : IsB w bo b) (hla : na ≤ 281474976710656) :
    Calls Try.prog 16 #[.slice ao na ca, .slice bo nb cb] w fun e w' => e = .returned (.bool r) ∧ Dr w w' := by
  subst hr; exact refBelow_any ao bo na nb ca cb a b hna hnb w ha hb hla

/-- What Get leaves. -/
def GetPost (w : World) (bs : List By) (e : Ending) (w' : World) : Prop :=
  ∃ ao c, e = .returned (.tuple #[.slice ao (gotB bs).length c, .int .i64 (gotE bs)]) ∧ Own w.heap.size w' (.slice ao (gotB bs).length c) (gotB bs) ∧ Below w.heap.size w w'

theorem IsB.take {w : World} {ao : Option Addr} {m : List By} (h : IsB w ao m) (k : Nat) : IsB w ao (m.take k) := by
  rcases h with rfl | ⟨B, off, rfl, hc⟩
  · exact .inl (by simp)
  · refine .inr ⟨B, off, rfl, fun j v hj => hc j v ?_⟩
    rw [List.getElem?_take] at hj
    split at hj
    · exact hj
    · cases hj

set_option maxHeartbeats 1000000 in
set_option maxRecDepth 100000 in
theorem get_any (ao : Option Addr) (n cap : Nat) (bs : List By) (hbs : bs.length = n) (w : World) (hb : IsB w ao bs) (hn : n ≤ cap) (hl : n ≤ 281474976710656) :
    Calls Try.prog 9 #[.slice ao n cap] w fun e w' => GetPost w bs e w' := by
  have HL : Hid (bs.length = n) := hbs
  have HB : Hid (IsB w ao bs) := hb
  clear hbs hb
  by_cases hr : isRail bs
  · have hrb : rightB bs = true := by unfold rightB; rw [decide_eq_true_iff]; exact hr
    obtain ⟨h, rfl⟩ : ∃ h, n = 2 * h := ⟨n / 2, by have := hr.1; rw [HL.out] at this; omega⟩
    have FIN : Hid (∀ e w', (∃ c, e = .returned (.tuple #[.slice (some ⟨w.heap.size, 0, none⟩) h c, .int .i64 0]) ∧ Own w.heap.size w' (.slice (some ⟨w.heap.size, 0, none⟩) h c) (bs.take h) ∧ Below w.heap.size w w') → GetPost w bs e w') := by
      rintro e w' ⟨c, h1, h2, h3⟩
      have e1 : gotB bs = bs.take h := by unfold gotB; rw [if_pos hr, HL.out, show 2 * h / 2 = h by omega]
      have e2 : gotE bs = 0 := by unfold gotE; rw [if_pos hr]
      have e3 : (bs.take h).length = h := by rw [List.length_take, HL.out]; omega
      unfold GetPost
      rw [e1, e2, e3]
      exact ⟨_, c, h1, h2, h3⟩
    have HR : Hid (rightB bs = true) := hrb
    clear hr hrb
    go_enter Try.func9, Try.ntmps9
    go_wp2_with fail
    refine (right_eq ao (2 * h) cap bs HL.out true HR.out w HB.out hn hl).mono ?_
    rintro e w1 ⟨rfl, d1⟩
    have D1 : Hid (Dr w w1) := d1
    clear d1 HR
    go_wp2_with fail
    refine (halves_two ao h cap w1 hn hl).mono ?_
    rintro e w2 ⟨ao1, ao2, rfl, d2, hao⟩
    have D2 : Hid (Dr w w2) := D1.out.trans d2
    have TK : Hid (IsB w2 ao1 (bs.take h)) := by
      show IsB _ _ _
      have hb2 := HB.out.dr D2.out
      by_cases h0 : 0 < h
      · obtain ⟨B, off, rfl, _⟩ := hb2.cell 0 (by rw [HL.out]; omega)
        rw [(hao h0 B off rfl).1]
        exact hb2.take h
      · left; rw [show h = 0 by omega]; simp
    have HSZ : Hid (w2.heap.size = w.heap.size) := by
      obtain ⟨k, hk⟩ := D2.out; rw [hk]; rfl
    have HLT : Hid ((bs.take h).length = h) := by show _ = _; rw [List.length_take, HL.out]; omega
    have hl2 : h ≤ 281474976710656 := by omega
    clear d2 hao D1
    go_wp2_with (first | (refine wpList_make_bytes rfl (.tmp 16) rfl h (h : Int) rfl rfl hl2 ?_; intro w3 r3 b3 s3; have R3 : Hid _ := r3; have B3 : Hid _ := b3; have S3 : Hid _ := s3; clear r3 b3 s3) | (refine wpList_copy_bytes rfl (.tmp 18) (.tmp 19) rfl w2.heap.size h h ao1 h rfl rfl _ (bs.take h) R3.out (by simp) HLT.out (TK.out.below B3.out (Nat.le_refl _)) ?_; intro w4 r4 s4))
    go_ret2
    refine FIN.out _ _ ⟨h, ?_, ?_, ?_⟩
    · rw [← HSZ.out]; rfl
    · rw [← HSZ.out]; exact row_own r4 (Nat.le_refl _) HLT.out hl2
    · have : Below w.heap.size w w3 := by
        have h1 := (Below_dr (Below.refl w.heap.size w) D2.out)
        have h2 := B3.out
        rw [HSZ.out] at h2
        exact h1.trans h2
      exact s4.below this (by rw [HSZ.out]; exact Nat.le_refl _)
  · have hrb : rightB bs = false := by unfold rightB; rw [decide_eq_false_iff_not]; exact hr
    have FIN : Hid (∀ w', Dr w w' → GetPost w bs (.returned (.tuple #[.slice none 0 0, .int .i64 5])) w') := by
      intro w' d
      have e1 : gotB bs = [] := by unfold gotB; rw [if_neg hr]
      have e2 : gotE bs = 5 := by unfold gotE; rw [if_neg hr]
      unfold GetPost
      rw [e1, e2]
      have hb := Below_dr (Below.refl w.heap.size w) d
      exact ⟨none, 0, rfl, own_nil _ _ hb.size, hb⟩
    have HR : Hid (rightB bs = false) := hrb
    clear hr hrb
    go_enter Try.func9, Try.ntmps9
    go_wp2_with fail
    refine (right_eq ao n cap bs HL.out false HR.out w HB.out hn hl).mono ?_
    rintro e w1 ⟨rfl, d1⟩
    have D1 : Hid (Dr w w1) := d1
    clear d1 HR
    go_wp2
    go_ret2
    exact FIN.out _ D1.out
end Go.Proofs.Ytljjfhllpbcpeaa
