
import Derived.Test.YtplpoehfdhkhmaaDoorP25W2
/-! The law of layer 25: what is asked of the code, but for Join. -/
namespace Go.Proofs.YtplpoehfdhkhmaaDoor
open Go.RowKit
set_option linter.unusedVariables false

structure PchT (M : List By -> List By -> List By) : Prop where
  read : ∀ (w : World) (po : Option Addr) (n pc : Nat) (p : List By), HG w -> p.length = n -> n <= 140737488351232 -> n <= pc -> (po = none -> pc = 0) -> IsB w po p -> Calls Tryd.prog 10 #[.slice po n pc] w (CRd w p)
  apply : ∀ (w : World) (ao : Option Addr) (n c : Nat) (old : List By) (po : Option Addr) (pn pc : Nat) (p : List By), HG w -> old.length = n -> n <= 140737488351232 -> n <= c -> (ao = none -> c = 0) -> IsB w ao old -> p.length = pn -> pn <= 140737488351232 -> pn <= pc -> (po = none -> pc = 0) -> IsB w po p ->
    Calls Tryd.prog 12 #[.slice ao n c, .slice po pn pc] w (CAp w old p)
  make : ∀ (w : World) (ao : Option Addr) (n c : Nat) (old : List By) (po : Option Addr) (pn pc : Nat) (new : List By), HG w -> old.length = n -> n <= 140737488351232 -> n <= c -> (ao = none -> c = 0) -> IsB w ao old -> new.length = pn -> pn <= 140737488351232 -> pn <= pc -> (po = none -> pc = 0) -> IsB w po new ->
    Calls Tryd.prog 16 #[.slice ao n c, .slice po pn pc] w (CMk M w old new)
  made : ∀ old new, old.length <= 524288 -> new.length <= 524288 -> ∃ x, readR (M old new) = .ok x /\ x.before = old.length /\ x.after = new.length /\ x.old = sha old /\ x.new = sha new /\ tells x.l old = new /\ (M old new).length <= mostN old new
section
variable {M : List By -> List By -> List By}
theorem PchT.rd (P : PchT M) {w : World} (hg : HG w) {po : Option Addr} {pc : Nat} {p : List By} (hp : RowIn w po pc p) : Calls Tryd.prog 10 #[.slice po p.length pc] w (CRd w p) := P.read w po _ pc p hg rfl hp.len hp.cap hp.nil hp.isb
theorem PchT.ap (P : PchT M) {w : World} (hg : HG w) {ao : Option Addr} {c : Nat} {old : List By} (ho : RowIn w ao c old) {po : Option Addr} {pc : Nat} {p : List By} (hp : RowIn w po pc p) : Calls Tryd.prog 12 #[.slice ao old.length c, .slice po p.length pc] w (CAp w old p) :=
  P.apply w ao _ c old po _ pc p hg rfl ho.len ho.cap ho.nil ho.isb rfl hp.len hp.cap hp.nil hp.isb
theorem PchT.mk' (P : PchT M) {w : World} (hg : HG w) {ao : Option Addr} {c : Nat} {old : List By} (ho : RowIn w ao c old) {po : Option Addr} {pc : Nat} {p : List By} (hp : RowIn w po pc p) : Calls Tryd.prog 16 #[.slice ao old.length c, .slice po p.length pc] w (CMk M w old p) :=
  P.make w ao _ c old po _ pc p hg rfl ho.len ho.cap ho.nil ho.isb rfl hp.len hp.cap hp.nil hp.isb
theorem PchT.mlen (P : PchT M) {old new : List By} (h1 : old.length <= 524288) (h2 : new.length <= 524288) : (M old new).length <= 140737488351232 := by
  obtain ⟨x, _, _, _, _, _, _, h⟩ := P.made old new h1 h2
  have : mostN old new <= 82 + 524288 := by
    unfold mostN
    split
    · omega
    · exact Nat.le_trans (Nat.min_le_right _ _) (by omega)
  omega
end
theorem apply_madeT {M : List By -> List By -> List By} (P : PchT M) {old new : List By} (h1 : old.length <= 524288) (h2 : new.length <= 524288) : applyR old (M old new) = .ok new := by
  obtain ⟨x, hr, hb, ha, ho, hn, ht, _⟩ := P.made old new h1 h2
  unfold applyR
  rw [hr]
  dsimp only
  rw [if_neg (by rintro (h | h); exact h hb.symm; exact h ho.symm), ht, if_neg (by rw [hn]; exact fun h => h rfl)]
theorem apply_otherT {M : List By -> List By -> List By} (P : PchT M) {old new other : List By} (h1 : old.length <= 524288) (h2 : new.length <= 524288) (h : other.length ≠ old.length ∨ sha other ≠ sha old) : applyR other (M old new) = .error (11, 5) := by
  obtain ⟨x, hr, hb, ha, ho, hn, ht, _⟩ := P.made old new h1 h2
  unfold applyR
  rw [hr]
  dsimp only
  rw [if_pos (by rw [hb, ho]; exact h)]
theorem mk_abcT {M : List By -> List By -> List By} (P : PchT M) : (M abc abd).length <= 85 := by
  obtain ⟨x, _, _, _, _, _, _, h⟩ := P.made abc abd (by decide) (by decide)
  rw [most_abc] at h
  exact h

set_option maxHeartbeats 4000000 in
set_option maxRecDepth 100000 in
theorem fixed25T_any {M : List By -> List By -> List By} (P : PchT M) (w : World) (hg : HG w) : Calls Tryd.prog 9 #[] w fun e w' => e = .returned (.bool true) /\ Below w.heap.size w w' := by
  obtain ⟨w1, hw1⟩ : ∃ w1, w1 = (w.alloc (.cells (abc.map B8).toArray 5 (3, 4))).alloc (.cells (abd.map B8).toArray 5 (3, 4)) := ⟨_, rfl⟩
  have b1 : Below w.heap.size w w1 := by rw [hw1]; exact ((Below.refl _ _).alloc (Nat.le_refl _) _).alloc (by simp) _
  have ra : IsB w1 (some ⟨w.heap.size, 0, none⟩) abc := by rw [hw1]; exact isb_mk25 ((Below.heap_alloc _ _ _ (by simp)).trans (heap_alloc_new w _))
  have rb : IsB w1 (some ⟨w.heap.size + 1, 0, none⟩) abd := by rw [hw1]; exact isb_mk25 (by have := heap_alloc_new (w.alloc (.cells (abc.map B8).toArray 5 (3, 4))) (.cells (abd.map B8).toArray 5 (3, 4)); simpa using this)
  have KA : Hid (∀ W : World, _) := fun W => Lib.run_convert_bytes_const (P := Tryd.prog) W 23 5 #[.int .u8 97, .int .u8 98, .int .u8 99] 3 3 Tryd.underlying23 Tryd.underlying5
  have KB : Hid (∀ W : World, _) := fun W => Lib.run_convert_bytes_const (P := Tryd.prog) W 23 5 #[.int .u8 97, .int .u8 98, .int .u8 100] 3 3 Tryd.underlying23 Tryd.underlying5
  have kc1 := KA.out w
  have kc2 := fun o1 : Obj => KB.out (w.alloc o1)
  have hz : ∀ o1 : Obj, (w.alloc o1).heap.size = w.heap.size + 1 := fun o1 => by simp
  simp only [hz] at kc2
  have HGB : Hid (∀ W, Below w.heap.size w W -> HG W) := fun W h => hg.below h hg.lt
  have MK := P.make w1 (some ⟨w.heap.size, 0, none⟩) 3 3 abc (some ⟨w.heap.size + 1, 0, none⟩) 3 3 abd (HGB.out _ b1) rfl (by omega) (Nat.le_refl _) (fun h => by cases h) ra rfl (by omega) (Nat.le_refl _) (fun h => by cases h) rb
  rw [hw1] at MK
  have HP : Hid (PchT M) := P
  have hl85 := mk_abcT P
  clear ra rb hg P hz
  go_enter Tryd.func9, Tryd.ntmps9
  go_wp2_with fail
  refine MK.mono ?_
  rw [<- hw1]
  clear MK hw1 kc1 kc2
  rintro e w2 ⟨hb2, b, hbv, rfl⟩
  rw [if_pos (by decide)] at hbv
  rw [if_pos (by decide)]
  have B2 : Hid (Below w.heap.size w w2) := b1.trans (hb2.mono b1.size)
  obtain ⟨bo, bc, rfl, hbi, hbn, hbc⟩ := hbv.eq
  have HBI : Hid (∀ W, Below w2.heap.size w2 W -> IsB W bo (M abc abd)) := fun W h => hbi.below h (Nat.le_refl _)
  clear hb2 b1 hbv hbi
  dsimp only
  -- Apply of the old row
  have A1 := HP.out.apply (w2.alloc (.cells (abc.map B8).toArray 5 (3, 4))) (some ⟨w2.heap.size, 0, none⟩) 3 3 abc bo (M abc abd).length bc (M abc abd) (HGB.out _ (B2.out.alloc B2.out.size _)) rfl (by omega) (Nat.le_refl _) (fun h => by cases h) (isb_mk25 (heap_alloc_new w2 _)) rfl (by omega) hbc hbn (HBI.out _ ((Below.refl _ _).alloc (Nat.le_refl _) _))
  have kc3 := KA.out w2
  go_wp2_with fail
  refine A1.mono ?_
  clear A1 kc3
  rintro e w3 ⟨hb3, hm⟩
  rw [apply_madeT HP.out (by decide) (by decide)] at hm
  obtain ⟨v3, rfl, hv3⟩ := hm
  obtain ⟨ao3, c3, rfl, hi3, _, _⟩ := hv3.eq
  have l3 : abd.length = 3 := rfl
  rw [l3]
  have HI3 : Hid (∀ W, Below w3.heap.size w3 W -> IsB W ao3 abd) := fun W h => hi3.below h (Nat.le_refl _)
  clear hi3 hv3 l3
  have b23 : Below w2.heap.size w2 w3 := ((Below.refl _ _).alloc (Nat.le_refl _) _).trans (hb3.mono (by simp))
  have B3 : Hid (Below w.heap.size w w3) := B2.out.trans (b23.mono B2.out.size)
  have HB23 : Hid (Below w2.heap.size w2 w3) := b23
  clear hb3 b23
  dsimp only
  -- Apply of another one
  have A2 := HP.out.apply (w3.alloc (.cells (abd.map B8).toArray 5 (3, 4))) (some ⟨w3.heap.size, 0, none⟩) 3 3 abd bo (M abc abd).length bc (M abc abd) (HGB.out _ (B3.out.alloc B3.out.size _)) rfl (by omega) (Nat.le_refl _) (fun h => by cases h) (isb_mk25 (heap_alloc_new w3 _)) rfl (by omega) hbc hbn (HBI.out _ (HB23.out.alloc HB23.out.size _))
  have kc4 := KB.out w3
  go_wp2_with fail
  refine A2.mono ?_
  clear A2 kc4
  rintro e w4 ⟨hb4, hm⟩
  rw [apply_otherT HP.out (by decide) (by decide) (.inr sha_abc)] at hm
  obtain ⟨v4, e4, rfl, _, he4⟩ := hm
  have b34 : Below w3.heap.size w3 w4 := ((Below.refl _ _).alloc (Nat.le_refl _) _).trans (hb4.mono (by simp))
  have B4 : Hid (Below w.heap.size w w4) := B3.out.trans (b34.mono B3.out.size)
  have HI4 : Hid (∀ W, Below w4.heap.size w4 W -> IsB W ao3 abd) := fun W h => HI3.out W (b34.trans (h.mono b34.size))
  have HE4 : Hid (ErrV w4 11 5 e4) := he4
  clear hb4 b34 HI3 he4 B3 HB23 HBI
  dsimp only
  -- Read of nothing
  have R1 := HP.out.read w4 none 0 0 [] (HGB.out _ B4.out) rfl (by omega) (Nat.le_refl _) (fun _ => rfl) (.inl rfl)
  go_wp2_with fail
  refine R1.mono ?_
  clear R1
  rintro e w5 ⟨hb5, hm⟩
  rw [read_nil] at hm
  obtain ⟨e5, rfl, he5⟩ := hm
  have B5 : Hid (Below w.heap.size w w5) := B4.out.trans (hb5.mono B4.out.size)
  have HI5 : Hid (∀ W, Below w5.heap.size w5 W -> IsB W ao3 abd) := fun W h => HI4.out W (hb5.trans (h.mono hb5.size))
  have H45 : Hid (ErrV w5 11 5 e4) := HE4.out.keep hb5
  have HE5 : Hid (ErrV w5 6 0 e5) := he5
  obtain ⟨ZI, hZI⟩ : ∃ ZI : Array Value, ZI = (infoC zX).toArray := ⟨_, rfl⟩
  have HZI : Hid (ZI = (infoC zX).toArray) := hZI
  rw [<- hZI]
  dsimp only
  clear hb5 HI4 HE4 he5 hZI
  have y85 : ((M abc abd).length : Int) <= 85 := by omega
  generalize (M abc abd).length = ml at *
  go_wp2_with (first
    | (have hz := HI5; clear hz; refine wpList_store_Row rfl 27 (.tmp 7) (.tmp 33) rfl w5.heap.size 27 0 zInf zInf (Row.at w5 _ _ _ _ rfl rfl) (Nat.le_refl _) rfl (congrArg Value.agg (HZI.out.trans (congrArg List.toArray zInf_eq))) (by kernel_rfl) (infoC_one zX) ?_; intro w6 hr6 hs6; have b6 : Below w5.heap.size w5 w6 := hs6.below ((Below.refl _ _).alloc (Nat.le_refl _) _) (Nat.le_refl _); have B6 : Hid (Below w.heap.size w w6) := B5.out.trans (b6.mono B5.out.size); have cv := conv_bytes w6 ao3 3 c3 abd rfl (HI5.out _ b6); have H46 : Hid (ErrV w6 11 5 e4) := H45.out.keep b6; have H56 : Hid (ErrV w6 6 0 e5) := HE5.out.keep b6; have hS : strOf abd = { data := #[97, 98, 100] } := rfl; rw [hS] at cv; clear hr6 hs6 b6 HI5 H45 HE5 hS)
    | (have hz := H46; clear hz; go_at_call 14; refine (is_wrong _ (HGB.out _ B6.out) 11 5 (by omega) _ H46.out).mono ?_; rintro e w7 ⟨rfl, hb7⟩; have B7 : Hid (Below w.heap.size w w7) := B6.out.trans (hb7.mono B6.out.size); have H57 : Hid (ErrV w7 6 0 e5) := H56.out.keep hb7; clear hb7 H46 H56 B6 cv)
    | (have hz := H57; clear hz; go_at_call 14; refine (is_wrong _ (HGB.out _ B7.out) 6 0 (by omega) _ H57.out).mono ?_; rintro e w8 ⟨rfl, hb8⟩; have B8 : Hid (Below w.heap.size w w8) := B7.out.trans (hb8.mono B7.out.size); clear hb8 H57 B7))
  go_ret
  exact ⟨rfl, B8.out⟩
end Go.Proofs.YtplpoehfdhkhmaaDoor
