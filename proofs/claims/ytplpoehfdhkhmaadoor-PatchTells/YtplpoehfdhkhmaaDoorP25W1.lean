
import Derived.Test.YtplpoehfdhkhmaaDoorP25Fx
/-! The law of layer 25: PatchNames, PatchReads. -/
namespace Go.Proofs.YtplpoehfdhkhmaaDoor
open Go.RowKit
set_option linter.unusedVariables false

/-- An error as the program tells it: none, or one in memory. -/
def ErO (W : World) (k a : Nat) (v : Value) : Prop := (k = 0 /\ a = 0 /\ v = .nilIface) ∨ (k ≠ 0 /\ ErrV W k a v)
theorem ErO.keep {W W2 : World} {k a : Nat} {v : Value} (h : ErO W k a v) (hb : Below W.heap.size W W2) : ErO W2 k a v := by
  rcases h with h | ⟨h1, h2⟩
  · exact .inl h
  · exact .inr ⟨h1, h2.keep hb⟩
theorem is_any (w : World) (hg : HG w) (k a : Nat) (v : Value) (h : ErO w k a v) : Calls Tryd.prog 14 #[v, .agg #[.int .i64 (k : Int), .int .i64 (a : Int)]] w fun e w' => e = .returned (.bool true) /\ Below w.heap.size w w' := by
  rcases h with ⟨rfl, rfl, rfl⟩ | ⟨h1, h2⟩
  · exact is_nil w
  · exact is_wrong w hg k a h1 v h2
/-- What reading tells, in one row: a patch (nothing, with an error), an error's number and its place. -/
def rT (p : List By) : PX × Nat × Nat := match readR p with | .error (k, a) => (zX, k, a) | .ok x => (x, 0, 0)
def aT (old p : List By) : List By × Nat × Nat := match applyR old p with | .error (k, a) => ([], k, a) | .ok m => (m, 0, 0)
theorem applyR_wrong {old p : List By} {k a : Nat} (h : applyR old p = .error (k, a)) : k ≠ 0 := by
  unfold applyR at h
  split at h
  · rename_i e a' he
    have := (readR_wrong he).1
    injection h with h
    injection h with h1 h2
    omega
  · split at h
    · injection h with h; injection h with h1 h2; omega
    · split at h
      · injection h with h; injection h with h1 h2; omega
      · cases h
theorem rT_ok (p : List By) : PXok (rT p).1 := by
  unfold rT
  cases hr : readR p with
  | error ka => exact zX_ok
  | ok x => exact readR_ok hr
theorem crd_uni {w : World} {p : List By} {e : Ending} {w' : World} (h : CRd w p e w') : Below w.heap.size w w' /\ ∃ v, e = .returned (.tuple #[.agg (infoC (rT p).1).toArray, v]) /\ ErO w' (rT p).2.1 (rT p).2.2 v := by
  refine ⟨h.1, ?_⟩
  have h2 := h.2
  unfold rT
  cases hr : readR p with
  | error ka =>
    rw [hr] at h2
    obtain ⟨v, e1, hv⟩ := h2
    exact ⟨v, e1, .inr ⟨by have := (readR_wrong (p := p) (e := ka.1) (a := ka.2) hr).1; show ka.1 ≠ 0; omega, hv⟩⟩
  | ok x =>
    rw [hr] at h2
    exact ⟨_, h2, .inl ⟨rfl, rfl, rfl⟩⟩
theorem rdp_uni {w : World} {p : List By} {e : Ending} {w' : World} (h : RdP w p e w') : Below w.heap.size w w' /\ ∃ C, e = .returned (.tuple #[.agg C.toArray, .agg #[.int .i64 ((rT p).2.1 : Int), .int .i64 ((rT p).2.2 : Int)]]) /\ PxV w.heap.size w' (rT p).1 C := by
  refine ⟨h.1, ?_⟩
  have h2 := h.2
  unfold rT
  cases hr : readR p with
  | error ka =>
    rw [hr] at h2
    exact ⟨zPx, h2, zX_pxv _ _⟩
  | ok x =>
    rw [hr] at h2
    exact h2
theorem cap_uni {w : World} {old p : List By} {e : Ending} {w' : World} (h : CAp w old p e w') : Below w.heap.size w w' /\ ∃ b v, e = .returned (.tuple #[b, v]) /\ BV w' b (aT old p).1 /\ ErO w' (aT old p).2.1 (aT old p).2.2 v := by
  refine ⟨h.1, ?_⟩
  have h2 := h.2
  unfold aT
  cases hr : applyR old p with
  | error ka =>
    rw [hr] at h2
    obtain ⟨b, v, e1, hb, hv⟩ := h2
    exact ⟨b, v, e1, hb, .inr ⟨applyR_wrong (k := ka.1) (a := ka.2) hr, hv⟩⟩
  | ok m =>
    rw [hr] at h2
    obtain ⟨b, e1, hb⟩ := h2
    exact ⟨b, _, e1, hb, .inl ⟨rfl, rfl, rfl⟩⟩
theorem own_bv {N : Nat} {W : World} {bo : Option Addr} {bc : Nat} {b : List By} (h : Own N W (.slice bo b.length bc) b) : BV W (.slice bo b.length bc) b :=
  ⟨bo, bc, rfl, own_IsB h, (own_isb h).2.1, (own_isb h).2.2.1⟩
theorem apP_uni {w : World} {old p : List By} {e : Ending} {w' : World} (h : ApP w old p e w') : Below w.heap.size w w' /\ ∃ b, e = .returned (.tuple #[b, .agg #[.int .i64 ((aT old p).2.1 : Int), .int .i64 ((aT old p).2.2 : Int)]]) /\ BV w' b (aT old p).1 := by
  refine ⟨h.1, ?_⟩
  have h2 := h.2
  unfold aT
  cases hr : applyR old p with
  | error ka =>
    rw [hr] at h2
    exact ⟨_, h2, none, 0, rfl, .inl rfl, fun _ => rfl, Nat.le_refl _⟩
  | ok m =>
    rw [hr] at h2
    obtain ⟨bo, bc, e1, ho⟩ := h2
    exact ⟨_, e1, own_bv ho⟩

set_option maxHeartbeats 1000000 in
set_option maxRecDepth 100000 in
theorem names25_any {M J : List By -> List By -> List By} (P : Pch M J) (w : World) (hg : HG w) : Calls Tryd.prog 3 #[] w fun e w' => e = .returned (.bool true) /\ Below w.heap.size w w' := by
  go_enter Tryd.func3, Tryd.ntmps3
  go_wp2_with (go_at_call 9; refine (fixed25_any P _ hg).mono ?_; rintro e w2 ⟨rfl, hb2⟩)
  go_ret
  exact ⟨rfl, hb2⟩

/-- What stands in memory behind both readings. -/
structure Rd8 (C IC : List Value) (G g5 g12 N : Nat) (X : PX) (k a k2 a2 : Nat) (ev fv : Value) (W : World) : Prop where
  rc : Row W G 34 C
  rw : Row W (G + 1) 37 [.int .i64 (k : Int), .int .i64 (a : Int)]
  ri : Row W g5 27 IC
  rv : Row W g12 37 [.int .i64 (k2 : Int), .int .i64 (a2 : Int)]
  er : ErO W k a ev
  fe : ErO W k2 a2 fv
  px : PxV N W X C
theorem Rd8.keep {C IC : List Value} {G g5 g12 N : Nat} {X : PX} {k a k2 a2 : Nat} {ev fv : Value} {W W2 : World} (h : Rd8 C IC G g5 g12 N X k a k2 a2 ev fv W) (hb : Below W.heap.size W W2) : Rd8 C IC G g5 g12 N X k a k2 a2 ev fv W2 :=
  ⟨h.rc.below hb h.rc.lt, h.rw.below hb h.rw.lt, h.ri.below hb h.ri.lt, h.rv.below hb h.rv.lt, h.er.keep hb, h.fe.keep hb, h.px.keep hb⟩

set_option maxHeartbeats 4000000 in
set_option maxRecDepth 100000 in
theorem reads25_any {M J : List By -> List By -> List By} (P : Pch M J) (w : World) (hg : HG w) (ao : Option Addr) (n c : Nat) (old : List By) (hn : old.length = n) (hn47 : n <= 140737488351232) (hc : n <= c) (hao : ao = none -> c = 0) (hb : IsB w ao old)
    (po : Option Addr) (pn pc : Nat) (p : List By) (hpn : p.length = pn) (hp47 : pn <= 140737488351232) (hpc : pn <= pc) (hpo : po = none -> pc = 0) (hp : IsB w po p) :
    Calls Tryd.prog 4 #[.slice ao n c, .slice po pn pc] w fun e w' => e = .returned (.bool true) /\ Below w.heap.size w w' := by
  have HGB : Hid (∀ W, Below w.heap.size w W -> HG W) := fun W h => hg.below h hg.lt
  have RC : Hid (∀ W, Below w.heap.size w W -> Calls Tryd.prog 10 #[.slice po pn pc] W (CRd W p)) := fun W h => P.read W po pn pc p (HGB.out W h) hpn hp47 hpc hpo (hp.below h (Nat.le_refl _))
  have RR : Hid (∀ W, Below w.heap.size w W -> Calls Tryd.prog 11 #[.slice po pn pc] W (RdP W p)) := fun W h => rdC_any W po pn pc p hpn hp47 hpc (hp.below h (Nat.le_refl _))
  have AC : Hid (∀ W, Below w.heap.size w W -> Calls Tryd.prog 12 #[.slice ao n c, .slice po pn pc] W (CAp W old p)) := fun W h => P.apply W ao n c old po pn pc p (HGB.out W h) hn hn47 hc hao (hb.below h (Nat.le_refl _)) hpn hp47 hpc hpo (hp.below h (Nat.le_refl _))
  have AR : Hid (∀ W, Below w.heap.size w W -> Calls Tryd.prog 13 #[.slice ao n c, .slice po pn pc] W (ApP W old p)) := fun W h => r25Apply_any rdC_any W ao n c old hn hn47 hc hao (hb.below h (Nat.le_refl _)) po pn pc p hpn hp47 hpc (hp.below h (Nat.le_refl _))
  have FX : Hid (∀ W, Below w.heap.size w W -> Calls Tryd.prog 9 #[] W fun e w' => e = .returned (.bool true) /\ Below W.heap.size W w') := fun W h => fixed25_any P W (HGB.out W h)
  clear hb hp hn hpn hn47 hp47 hc hpc hao hpo hg P
  go_enter Tryd.func4, Tryd.ntmps4
  go_wp2_with fail
  refine (RC.out w (Below.refl _ _)).mono ?_
  clear RC
  intro e w2 he
  obtain ⟨hb2, ev, rfl, her⟩ := crd_uni he
  clear he
  have okX := rT_ok p
  generalize hT : rT p = T at *
  obtain ⟨X, k, a⟩ := T
  dsimp only at her okX ⊢
  obtain ⟨IC, hIC⟩ : ∃ IC, IC = infoC X := ⟨_, rfl⟩
  rw [<- hIC]
  have lI : IC.length = 68 := by rw [hIC]; exact infoC_len okX.lo okX.ln
  have oI : Hid (∀ v ∈ IC, v.oneCell' = true) := by rw [hIC]; exact infoC_one X
  have HIC : Hid (IC = infoC X) := hIC
  have B2 : Hid (Below w.heap.size w w2) := hb2
  have HER : Hid (ErO w2 k a ev) := her
  have HT : Hid (rT p = (X, k, a)) := hT
  clear hIC okX hb2 her hT
  go_wp2_with (first
    | (have hz := HER; clear hz; refine wpList_store_Row rfl 27 (.tmp 5) (.tmp 16) rfl w2.heap.size 27 0 zInf IC (Row.at w2 _ _ _ _ rfl rfl) (by rw [lI]; exact Nat.le_refl _) rfl rfl (by rw [lI]; kernel_rfl) oI.out ?_; intro w3 hr3 hs3; have b3 : Below w2.heap.size w2 w3 := hs3.below ((Below.refl _ _).alloc (Nat.le_refl _) _) (Nat.le_refl _); have B3 : Hid (Below w.heap.size w w3) := B2.out.trans (b3.mono B2.out.size); have R5 : Hid (Row w3 w2.heap.size 27 IC) := row_whole hr3 (by rw [lI]; exact Nat.le_refl _); have ER3 : Hid (ErO w3 k a ev) := HER.out.keep b3; clear hr3 hs3 b3 HER B2))
  generalize w2.heap.size = g5 at *
  refine (RR.out _ B3.out).mono ?_
  clear RR
  intro e w4 he
  obtain ⟨hb4, C, rfl, hpx⟩ := rdp_uni he
  rw [HT.out] at hpx ⊢
  dsimp only at hpx ⊢
  clear he
  have lC := hpx.len
  obtain ⟨lo, lc, hC, _⟩ := hpx.eq
  have oC : Hid (∀ v ∈ C, v.oneCell' = true) := by rw [hC]; exact pxC_one _ _ _ _ _ _ _
  have B4 : Hid (Below w.heap.size w w4) := B3.out.trans (hb4.mono B3.out.size)
  have R54 : Hid (Row w4 g5 27 IC) := R5.out.below hb4 R5.out.lt
  have ER4 : Hid (ErO w4 k a ev) := ER3.out.keep hb4
  have PX4 : Hid (PxV w3.heap.size w4 X C) := hpx
  clear hb4 hpx hC R5 ER3 B3
  obtain ⟨G, hG⟩ : ∃ G, G = w4.heap.size := ⟨_, rfl⟩
  have Z7 : Hid (Row ((w4.alloc (.cells zPx.toArray 34)).alloc (.cells #[.int .i64 0, .int .i64 0] 37)) G 34 zPx) := (Row.at w4 _ _ _ _ hG rfl).alloc _
  have Z8 : Hid (Row ((w4.alloc (.cells zPx.toArray 34)).alloc (.cells #[.int .i64 0, .int .i64 0] 37)) (G + 1) 37 [.int .i64 0, .int .i64 0]) := Row.at _ _ _ _ _ (by rw [hG]; simp) rfl
  have b5 : Below w4.heap.size w4 ((w4.alloc (.cells zPx.toArray 34)).alloc (.cells #[.int .i64 0, .int .i64 0] 37)) := ((Below.refl _ _).alloc (Nat.le_refl _) _).alloc (by simp) _
  have K5 : Hid (∀ wa wb, SameBut G ((w4.alloc (.cells zPx.toArray 34)).alloc (.cells #[.int .i64 0, .int .i64 0] 37)) wa -> SameBut (G + 1) wa wb -> Below w4.heap.size w4 wb) := fun wa wb h1 h2 => h2.below (h1.below b5 (by omega)) (by omega)
  have HG : Hid (G = w4.heap.size) := hG
  clear hG b5
  go_wp2_with (first
    | (have hz := Z7; clear hz; rw [<- HG.out]; refine wpList_store_Row rfl 34 (.tmp 7) (.tmp 21) rfl G 34 0 zPx C Z7.out (by rw [lC]; exact Nat.le_refl _) rfl rfl (by rw [lC]; kernel_rfl) oC.out ?_; intro wa hra hsa; have h7 : Hid (Row wa (G + 1) 37 [.int .i64 0, .int .i64 0] /\ Row wa G 34 C /\ SameBut G ((w4.alloc (.cells zPx.toArray 34)).alloc (.cells #[.int .i64 0, .int .i64 0] 37)) wa) := ⟨Z8.out.but hsa (by omega), row_whole hra (by rw [lC]; exact Nat.le_refl _), hsa⟩; clear hra hsa Z7 Z8)
    | (have hz := h7; clear hz; refine wpList_store_Row rfl 37 (.tmp 8) (.tmp 22) rfl (G + 1) 37 0 [.int .i64 0, .int .i64 0] [.int .i64 (k : Int), .int .i64 (a : Int)] h7.out.1 (Nat.le_refl _) rfl rfl (by kernel_rfl) (wr2_one _ _) ?_; intro w5 hr5 hs5; have b45 := K5.out _ _ h7.out.2.2 hs5; have H5 : Hid (Row w5 G 34 C /\ Row w5 (G + 1) 37 [.int .i64 (k : Int), .int .i64 (a : Int)] /\ Row w5 g5 27 IC /\ ErO w5 k a ev /\ PxV w3.heap.size w5 X C) := ⟨h7.out.2.1.but hs5 (by omega), row_whole hr5 (Nat.le_refl _), R54.out.below b45 R54.out.lt, ER4.out.keep b45, PX4.out.keep b45⟩; have B5 : Hid (Below w.heap.size w w5) := B4.out.trans (b45.mono B4.out.size); clear hr5 hs5 h7 b45 K5 R54 ER4 PX4 B4))
  refine (AC.out _ B5.out).mono ?_
  clear AC
  intro e w6 he
  obtain ⟨hb6, b, fv, rfl, hbv, hfe⟩ := cap_uni he
  clear he
  generalize hA : aT old p = TA at *
  obtain ⟨m, k2, a2⟩ := TA
  dsimp only at hbv hfe ⊢
  obtain ⟨bo, bc, rfl, hbi, _, _⟩ := hbv.eq
  have H6 : Hid (Row w6 G 34 C /\ Row w6 (G + 1) 37 [.int .i64 (k : Int), .int .i64 (a : Int)] /\ Row w6 g5 27 IC /\ ErO w6 k a ev /\ PxV w3.heap.size w6 X C) := ⟨H5.out.1.below hb6 H5.out.1.lt, H5.out.2.1.below hb6 H5.out.2.1.lt, H5.out.2.2.1.below hb6 H5.out.2.2.1.lt, H5.out.2.2.2.1.keep hb6, H5.out.2.2.2.2.keep hb6⟩
  have B6 : Hid (Below w.heap.size w w6) := B5.out.trans (hb6.mono B5.out.size)
  have HBI : Hid (∀ W, Below w6.heap.size w6 W -> IsB W bo m) := fun W h => hbi.below h (Nat.le_refl _)
  have HFE : Hid (ErO w6 k2 a2 fv) := hfe
  have HTA : Hid (aT old p = (m, k2, a2)) := hA
  clear hb6 H5 B5 hbv hbi hfe hA
  go_wp2_with fail
  refine (AR.out _ B6.out).mono ?_
  clear AR
  intro e w7 he
  obtain ⟨hb7, b7, rfl, hbv7⟩ := apP_uni he
  rw [HTA.out] at hbv7 ⊢
  dsimp only at hbv7 ⊢
  obtain ⟨co, cc, rfl, hci, _, _⟩ := hbv7.eq
  have H7 : Hid (Row w7 G 34 C /\ Row w7 (G + 1) 37 [.int .i64 (k : Int), .int .i64 (a : Int)] /\ Row w7 g5 27 IC /\ ErO w7 k a ev /\ PxV w3.heap.size w7 X C /\ ErO w7 k2 a2 fv) := ⟨H6.out.1.below hb7 H6.out.1.lt, H6.out.2.1.below hb7 H6.out.2.1.lt, H6.out.2.2.1.below hb7 H6.out.2.2.1.lt, H6.out.2.2.2.1.keep hb7, H6.out.2.2.2.2.keep hb7, HFE.out.keep hb7⟩
  have B7 : Hid (Below w.heap.size w w7) := B6.out.trans (hb7.mono B6.out.size)
  have HB7 : Hid (∀ W, Below w7.heap.size w7 W -> IsB W bo m /\ IsB W co m) := fun W h => ⟨HBI.out W (hb7.trans (h.mono hb7.size)), hci.below h (Nat.le_refl _)⟩
  clear he hb7 H6 B6 hbv7 hci HBI HFE
  have SM : Hid (∀ W, PxV w3.heap.size W X C -> Calls Tryd.prog 15 #[.agg IC.toArray, .agg C.toArray] W fun e w' => e = .returned (.bool true) /\ Below W.heap.size W w') := fun W h => by rw [HIC.out]; exact same25_any _ X C W h
  have HS : Hid (strOf m = strOf m) := rfl
  clear HIC HT HTA HG HS
  generalize w3.heap.size = N3 at *
  go_wp2_with (first
    | (have hz := H7; clear hz; refine wpList_store_Row rfl 37 (.tmp 12) (.tmp 34) rfl w7.heap.size 37 0 [.int .i64 0, .int .i64 0] [.int .i64 (k2 : Int), .int .i64 (a2 : Int)] (Row.at w7 _ _ _ _ rfl rfl) (Nat.le_refl _) rfl rfl (by kernel_rfl) (wr2_one _ _) ?_; intro w8 hr8 hs8; have b8 : Below w7.heap.size w7 w8 := hs8.below ((Below.refl _ _).alloc (Nat.le_refl _) _) (Nat.le_refl _); have H8 : Hid (Rd8 C IC G g5 w7.heap.size N3 X k a k2 a2 ev fv w8) := ⟨H7.out.1.below b8 H7.out.1.lt, H7.out.2.1.below b8 H7.out.2.1.lt, H7.out.2.2.1.below b8 H7.out.2.2.1.lt, row_whole hr8 (Nat.le_refl _), H7.out.2.2.2.1.keep b8, H7.out.2.2.2.2.2.keep b8, H7.out.2.2.2.2.1.keep b8⟩; have B8 : Hid (Below w.heap.size w w8) := B7.out.trans (b8.mono B7.out.size); have HB8 : Hid (∀ W, Below w8.heap.size w8 W -> IsB W bo m /\ IsB W co m) := (fun W h => HB7.out W (b8.trans (h.mono b8.size))); have L1 : Hid True := trivial; clear hr8 hs8 b8 H7 B7 HB7)
    | (have hz := L1; clear hz L1; refine wpList_load_Row rfl 37 (.tmp 8) rfl (G + 1) 37 [.int .i64 (k : Int), .int .i64 (a : Int)] H8.out.rw rfl _ Tryd.underlying37 rfl (by kernel_rfl) ?_)
    | (have hz := H8; clear hz; go_at_call 14; refine (is_any _ (HGB.out _ B8.out) k a ev H8.out.er).mono ?_; rintro e w9 ⟨rfl, hb9⟩; have H9 : Hid (Rd8 C IC G g5 w7.heap.size N3 X k a k2 a2 ev fv w9) := H8.out.keep hb9; have B9 : Hid (Below w.heap.size w w9) := B8.out.trans (hb9.mono B8.out.size); have HB9 : Hid (∀ W, Below w9.heap.size w9 W -> IsB W bo m /\ IsB W co m) := (fun W h => HB8.out W (hb9.trans (h.mono hb9.size))); have L2 : Hid True := trivial; have L3 : Hid True := trivial; clear hb9 H8 B8 HB8)
    | (have hz := L2; clear hz L2; refine wpList_load_whole_g ?_ 27 (.tmp 5) rfl g5 27 68 IC H9.out.ri rfl _ lI Tryd.underlying27 rfl (by kernel_rfl) ?_; · rfl)
    | (have hz := L3; clear hz L3; refine wpList_load_whole_g ?_ 34 (.tmp 7) rfl G 34 67 C H9.out.rc rfl _ lC Tryd.underlying34 rfl (by kernel_rfl) ?_; · rfl)
    | (have hz := H9; clear hz; go_at_call 15; refine (SM.out _ H9.out.px).mono ?_; rintro e wA ⟨rfl, hbA⟩; have HA : Hid (Rd8 C IC G g5 w7.heap.size N3 X k a k2 a2 ev fv wA) := H9.out.keep hbA; have BA : Hid (Below w.heap.size w wA) := B9.out.trans (hbA.mono B9.out.size); have HBA : Hid (∀ W, Below wA.heap.size wA W -> IsB W bo m /\ IsB W co m) := (fun W h => HB9.out W (hbA.trans (h.mono hbA.size))); have L4 : Hid True := trivial; clear hbA H9 B9 HB9)
    | (have hz := L4; clear hz L4; refine wpList_load_whole_g ?_ 37 (.tmp 12) rfl w7.heap.size 37 2 [.int .i64 (k2 : Int), .int .i64 (a2 : Int)] HA.out.rv rfl _ rfl Tryd.underlying37 rfl (by kernel_rfl) ?_; · rfl)
    | (have hz := HA; clear hz; go_at_call 14; refine (is_any _ (HGB.out _ BA.out) k2 a2 fv HA.out.fe).mono ?_; rintro e wB ⟨rfl, hbB⟩; have BB : Hid (Below w.heap.size w wB) := BA.out.trans (hbB.mono BA.out.size); have cv1 := conv_bytes wB bo m.length bc m rfl (HBA.out _ hbB).1; have cv2 := conv_bytes wB co m.length cc m rfl (HBA.out _ hbB).2; clear hbB HA BA HBA)
    | (have hz := BB; clear hz; go_at_call 9; refine (FX.out _ BB.out).mono ?_; rintro e wC ⟨rfl, hbC⟩; have BC : Hid (Below w.heap.size w wC) := BB.out.trans (hbC.mono BB.out.size); clear hbC BB cv1 cv2))
  go_ret
  exact ⟨rfl, BC.out⟩
end Go.Proofs.YtplpoehfdhkhmaaDoor
