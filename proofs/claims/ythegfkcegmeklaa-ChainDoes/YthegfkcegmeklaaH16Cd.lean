
import Derived.Test.YthegfkcegmeklaaH16C5
import Derived.Test.YthegfkcegmeklaaH16C6
/-! The code's contracts, whole. -/
namespace Go.Proofs.Ythegfkcegmeklaa
open Go.RowKit
set_option linter.unusedVariables false

set_option maxHeartbeats 1000000 in
set_option maxRecDepth 100000 in
theorem cquo_any {S : Nat → Prop} {w : World} {a : Addr} {xs : List EvV} (h : LgC S w a xs) (ko : Option Addr) (kn kc : Nat) (key : List By) (hkn : key.length = kn) (hki : IsB w ko key) (hkk : (ko = none → kc = 0) ∧ kn ≤ kc) (hkb : kn ≤ 140737488351232) (no : Option Addr) (nb nc : Nat) (nonce : List By) (hnb : nonce.length = nb) (hni : IsB w no nonce) (hnn : (no = none → nc = 0) ∧ nb ≤ nc) (hbig : nb ≤ 140737488351232) :
    Calls Try.prog 22 #[.pointer (some a), .slice ko kn kc, .slice no nb nc] w fun e w' => e = .returned (.agg ((quot key nonce xs).map B8).toArray) ∧ Below w.heap.size w w' := by
  obtain ⟨g, ao, c, rfl, hr, hl, hok, ho, hS⟩ := h
  obtain ⟨B, hao, hin⟩ := own_evIn ho hok
  obtain ⟨W1, hW1⟩ : ∃ W1, W1 = w.alloc (.cells z32.toArray 32) := ⟨_, rfl⟩
  have b1 : Below w.heap.size w W1 := by rw [hW1]; exact (Below.refl _ _).alloc (Nat.le_refl _) _
  have r1 : Row W1 w.heap.size 32 z32 := by rw [hW1]; exact Row.at w _ _ _ _ rfl rfl
  have hc : (w.alloc (.cells #[.int .u8 0, .int .u8 0, .int .u8 0, .int .u8 0, .int .u8 0, .int .u8 0, .int .u8 0, .int .u8 0, .int .u8 0, .int .u8 0, .int .u8 0, .int .u8 0, .int .u8 0, .int .u8 0, .int .u8 0, .int .u8 0, .int .u8 0, .int .u8 0, .int .u8 0, .int .u8 0, .int .u8 0, .int .u8 0, .int .u8 0, .int .u8 0, .int .u8 0, .int .u8 0, .int .u8 0, .int .u8 0, .int .u8 0, .int .u8 0, .int .u8 0, .int .u8 0] 32)).cell? ⟨g, 0, none⟩ = some (.slice ao xs.length c) := by
    have := (hr.below b1 hr.lt).cell 0 _ rfl
    rw [hW1] at this
    exact this
  have QU := cquote_any W1 ko kn kc key hkn (hki.below b1 (Nat.le_refl _)) hkk hkb no nb nc nonce hnb (hni.below b1 (Nat.le_refl _)) hnn hbig ao xs.length c B 0 xs rfl (by omega) hao (hin.keep b1)
  have hql : (quot key nonce xs).length = 32 := shaLen _
  clear hin hao ho hr hS hok hki hni hkn hnb hkk hnn
  generalize quot key nonce xs = QQ at *
  rw [hW1] at QU
  go_enter Try.func22, Try.ntmps22
  go_wp2_with fail
  refine QU.mono ?_
  rw [← hW1]
  rintro e w2 ⟨rfl, hb2⟩
  dsimp only
  have r2 := r1.below hb2 r1.lt
  have b2 : Below w.heap.size w w2 := b1.trans (hb2.mono b1.size)
  clear QU hb2 r1 hW1 b1 hc
  go_wp2_with (refine wpList_store_Row rfl 32 _ _ rfl w.heap.size 32 0 z32 (QQ.map B8) r2 (by simp [hql]) rfl rfl (by rw [List.length_map, hql]; kernel_rfl) (B8_one _) ?_; intro w9 hr9 hs9)
  have hr := row_whole hr9 (by simp [hql])
  refine bodyPost_ret_by (results_Row Try.results22 _ w9 w.heap.size 32 _ _ rfl hr Try.underlying32 rfl (by rw [List.length_map, hql]; kernel_rfl)) rfl ⟨rfl, hs9.below b2 (Nat.le_refl _)⟩

theorem chnOf : ∃ Lg, Chn Lg := ⟨LgC,
  { lt := LgC.lt
    len := fun h => by obtain ⟨_, _, _, _, _, hl, _⟩ := h; exact hl
    keep := fun h hk _ => h.keep hk
    new := cnew_any
    add := fun x hx h => cadd_any x hx h
    register := fun {S w a xs} h => (cregister_any h).mono fun e w' ⟨h1, h2⟩ => ⟨S, h1, h.below h2, fun j hj => .inl hj, But.of_below h2⟩
    events := fun {S w a xs} h => (cevents_any h).mono fun e w' ⟨ao, c, h1, h2, h3⟩ => ⟨S, ao, c, h1, h2, h.below h3, fun j hj => .inl hj, fun B o e hS => by
      have h4 := h.lt B hS
      subst e
      obtain ⟨B', e', hB, _⟩ := own_some h2
      injection e' with e'
      omega, But.of_below h3⟩
    quote := fun {S w a xs} h ko kn kc key hkn hki hkk hkb no nb nc nonce hnb hni hnn hbig => (cquo_any h ko kn kc key hkn hki hkk hkb no nb nc nonce hnb hni hnn hbig).mono fun e w' ⟨h1, h2⟩ => ⟨S, h1, h.below h2, fun j hj => .inl hj, But.of_below h2⟩
    extend := cextend_any
    measure := cmeasure_any
    check := ccheck_any }⟩
end Go.Proofs.Ythegfkcegmeklaa
