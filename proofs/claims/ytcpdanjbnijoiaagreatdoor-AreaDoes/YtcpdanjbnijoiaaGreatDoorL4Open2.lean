import Derived.Test.YtcpdanjbnijoiaaGreatDoorArStep
import Derived.Test.YtcpdanjbnijoiaaGreatDoorL4Good
import Derived.SizedLaws
import Derived.WalkKit
import Derived.ProofKit
import Derived.OpenShut
import Derived.ShutString
import Derived.ChangeOld
import Derived.Below
import Derived.Deep.Slices
import Derived.Deep.Strs

/-! Area's statements: fixed. -/
namespace Go.Proofs.YtcpdanjbnijoiaaGreatDoor
open Go.RowKit
set_option linter.unusedVariables false
set_option maxRecDepth 100000

theorem lay_ar {c : Cfg} {t : St} (hc : c.may = 0) (hf : Fit c t) (h8 : ∀ p ∈ t.pages, ∀ x ∈ p, x.length = 32) : (layS c t).Ar := ⟨lay_ok hc hf h8, hc, hf.1⟩

def fxaC : Cfg := ⟨4, 1, 1, 1, 1, 1, 1⟩
def fxa0 : RS := layS fxaC (freshC fxaC)
def fxaB : List By := List.replicate 33 0#8
def fxa1 : RS := (fxa0.awrite 0 fxaB).1
theorem fxa_may : fxaC.may = 0 := by decide +kernel
theorem fxa_size : fxaC.asize = 128 := by decide +kernel
theorem fxa_e1 : (fxa0.awrite 0 fxaB).2 = 0 := by decide +kernel
theorem fxa_r1 : (fxa1.aread 0).1 = [] ∧ (fxa1.aread 0).2 = 5 := by decide +kernel
theorem fxa_at : fxa1.at 2 1 = 0 := by decide +kernel
theorem fxa_c0 : (fxa1.cell 2 1).getD 0 0 = 0#8 ∧ (fxa1.cell 2 1).getD 1 0 = 255#8 ∧ (fxa1.cell 2 1).length = 32 := by decide +kernel
theorem fxa_n1 : fxa1.n = 2 := by decide +kernel
theorem fxa_n0 : fxa0.n < 4611686018427000000 := by decide +kernel
theorem fxa_8 : ∀ p ∈ (freshC fxaC).pages, ∀ x ∈ p, x.length = 32 := by decide +kernel
theorem fxa_a0 : fxa0.Ar := lay_ar fxa_may (fresh_fit fxa_may) fxa_8
theorem fxa_g0 : fxa0.Good := lay_good fxa_may (fresh_fit fxa_may)
theorem fxa_a1 : fxa1.Ar := (awrite_facts fxa_a0 fxa_g0 0 fxaB).1

theorem below_kept {w w1 w2 : World} {N : Nat} {L : List Nat} (hb : Below N w w1) (kl : KeptL L w1 w2) (hL : ∀ B ∈ L, N ≤ B) (hN : N ≤ w1.heap.size) : Below N w w2 :=
  hb.trans ⟨kl.os, kl.tape, kl.output, kl.size, fun k hk => kl.block k (by omega) (fun hm => by have := hL k hm; omega)⟩

set_option maxHeartbeats 1000000 in
theorem small_any (w : World) : Calls Tryz.prog 15 #[] w fun e w' => e = .returned (.agg fxaC.vals.toArray) ∧ Below w.heap.size w w' := by
  have r0 := Row.at w 23 [.int .i64 0, .int .i64 0, .int .i64 0, .int .i64 0, .int .i64 0, .int .i64 0, .int .i64 0] _ _ rfl rfl
  have b0 : ∀ o1, Below w.heap.size w (w.alloc o1) := fun o1 => (Below.refl _ _).alloc (Nat.le_refl _) _
  go_enter Tryz.func15, Tryz.ntmps15
  go_wp2_with (refine wpList_store_Row rfl 23 _ _ rfl w.heap.size 23 0 _ fxaC.vals r0 (Nat.le_refl _) rfl rfl (by kernel_rfl) (by intro v hv; simp [fxaC, Cfg.vals] at hv; rcases hv with rfl | rfl <;> rfl) ?_; intro w2 hr2 hs2)
  have q2 := row_whole hr2 (by simp [fxaC, Cfg.vals])
  exact bodyPost_ret_by (results_Row Tryz.results15 _ w2 w.heap.size 23 _ _ rfl q2 Tryz.underlying23 rfl (by kernel_rfl)) rfl ⟨rfl, hs2.below (b0 _) (Nat.le_refl _)⟩

set_option maxHeartbeats 4000000 in
theorem l14fixed_any (A : Are) (w : World) (hg : HG w) : Calls Tryz.prog 4 #[] w fun e w' => e = .returned (.bool true) ∧ Below w.heap.size w w' := by
  have HHG : Hid (HG w) := hg
  clear hg
  obtain ⟨s0, hs0⟩ : ∃ s, s = fxa0 := ⟨_, rfl⟩
  obtain ⟨s1, hs1⟩ : ∃ s, s = fxa1 := ⟨_, rfl⟩
  have SM : Hid (∀ W, Calls Tryz.prog 15 #[] W fun e w' => e = .returned (.agg fxaC.vals.toArray) ∧ Below W.heap.size W w') := fun W => small_any W
  have SZ : Hid (∀ W, Calls Tryz.prog 7 #[.agg fxaC.vals.toArray] W fun e w' => e = .returned (.int .i64 128) ∧ Below W.heap.size W w') := fun W => by
    have := A.size fxaC W
    rw [fxa_size] at this; exact this
  have HNEW : Hid (∀ W, Calls Tryz.prog 14 #[.agg fxaC.vals.toArray] W fun e w' => ∃ F, e = .returned (.tuple #[.pointer (some ⟨F.g, 0, none⟩), .int .i64 0]) ∧ CAt w' F s0 ⟨#[]⟩ ∧ (∀ B ∈ F.blocks, W.heap.size ≤ B) ∧ Below W.heap.size W w') := fun W => by
    refine (cnew_any fxaC W).mono ?_
    rintro e w' ⟨hb, ⟨h1, _⟩ | ⟨_, F, h1, h2, h3⟩⟩
    · exact absurd fxa_may h1
    · exact ⟨F, h1, by rw [hs0]; exact h2, h3, hb⟩
  have HWR : Hid (∀ F S W X, CAt W F s0 S → Row W X 5 ((List.replicate 33 (0 : By)).map B8) → X ∉ F.blocks → Calls Tryz.prog 16 #[.pointer (some ⟨F.g, 0, none⟩), .int .i64 0, .slice (some ⟨X, 0, none⟩) 33 33] W (CPost F s1 0 W)) := fun F S W X hW hr hX => by
    rw [hs0] at hW
    have := A.write F fxa0 S 0 (some ⟨X, 0, none⟩) 33 33 fxaB W rfl (by omega) (by omega) (fun h => by cases h) hW fxa_a0 fxa_g0 fxa_n0 (.inr ⟨X, 0, rfl, fun j v hj => by
      rw [Nat.zero_add]
      exact hr.cell j _ (by rw [List.getElem?_map]; show Option.map B8 (fxaB[j]?) = _; rw [hj]; rfl)⟩) (.inr fun B off e => by injection e with e; injection e with e; subst e; exact hX)
    rw [fxa_e1] at this
    rw [hs1]; exact this
  have HRD : Hid (∀ F S W, HG W → CAt W F s1 S → Calls Tryz.prog 17 #[.pointer (some ⟨F.g, 0, none⟩), .int .i64 0] W fun e w' => ∃ ao c, e = .returned (.tuple #[.slice ao 0 c, .int .i64 5]) ∧ Below W.heap.size W w') := fun F S W hgW hW => by
    rw [hs1] at hW
    have := A.read F fxa1 S 0 W hgW hW fxa_a1
    rw [fxa_r1.1, fxa_r1.2] at this
    exact this.mono fun e w' ⟨ao, c, h1, _, h2⟩ => ⟨ao, c, h1, h2⟩
  obtain ⟨CL, hCL⟩ : ∃ CL, CL = fxa1.cell 2 1 := ⟨_, rfl⟩
  have hc0 : CL.getD 0 0 = 0#8 ∧ CL.getD 1 0 = 255#8 ∧ CL.length = 32 := by rw [hCL]; exact fxa_c0
  have HCR : Hid (∀ F S W, CAt W F s1 S → Calls Tryz.prog 18 #[.pointer (some ⟨F.g, 0, none⟩), .int .i64 2, .int .i64 1] W fun e w' => e = .returned (.tuple #[.agg (CL.map B8).toArray, .int .i64 0]) ∧ Below W.heap.size W w') := fun F S W hW => by
    rw [hs1] at hW
    have := cread_any F fxa1 S 2 1 W hW
    rw [fxa_at, if_pos rfl] at this
    rw [hCL]; exact this
  have HAC : Hid (∀ F S W, CAt W F s1 S → Calls Tryz.prog 12 #[.pointer (some ⟨F.g, 0, none⟩)] W fun e w' => e = .returned (.int .i64 2) ∧ w' = W) := fun F S W hW => by
    rw [hs1] at hW
    have := cacts_any F fxa1 S W hW
    rw [fxa_n1] at this
    exact this
  clear hs0 hs1 hCL
  generalize fxaC.vals = CV at *
  go_enter Tryz.func4, Tryz.ntmps4
  go_wp2_with fail
  refine (SM.out _).mono ?_
  rintro e w0 ⟨rfl, hb0⟩
  dsimp only
  go_wp2_with fail
  refine (HNEW.out _).mono ?_
  rintro e w1 ⟨F, rfl, ca, hF, hb1⟩
  dsimp only
  have HFB : Hid (∀ B ∈ F.blocks, w.heap.size ≤ B) := fun B hB => Nat.le_trans hb0.size (hF B hB)
  have B1 : Hid (Below w.heap.size w w1) := hb0.trans (hb1.mono hb0.size)
  have CA1 : Hid (CAt w1 F s0 ⟨#[]⟩) := ca
  clear hb0 hb1 ca hF
  go_wp2_with (refine wpList_make_full rfl _ _ rfl .i64 .i64 33 rfl rfl (by omega) ?_; intro w2 hr2 hb2; have CA2 : Hid (CAt w2 F s0 ⟨#[]⟩) := CA1.out.below hb2 (Nat.le_refl _); have B2 : Hid (Below w.heap.size w w2) := B1.out.trans (hb2.mono B1.out.size); have HX2 : Hid (w1.heap.size ∉ F.blocks) := (fun h => by have := CA1.out.blt _ h; omega); clear hb2)
  refine (HWR.out F _ _ _ CA2.out hr2 HX2.out).mono ?_
  rintro e w3 ⟨rfl, ⟨S3, ca3⟩, kl3⟩
  dsimp only
  have B3 : Hid (Below w.heap.size w w3) := below_kept B2.out kl3 HFB.out B2.out.size
  clear kl3 hr2
  go_wp2_with fail
  refine (HRD.out F _ _ (HHG.out.below B3.out HHG.out.lt) ca3).mono ?_
  rintro e w4 ⟨ao, c, rfl, hb4⟩
  dsimp only
  have ca4 : CAt w4 F s1 S3 := ca3.below hb4 (Nat.le_refl _)
  have B4 : Hid (Below w.heap.size w w4) := B3.out.trans (hb4.mono B3.out.size)
  clear hb4 ca3
  go_wp2_with fail
  refine (HCR.out F _ _ ca4).mono ?_
  rintro e w5 ⟨rfl, hb5⟩
  dsimp only
  have ca5 : CAt w5 F s1 S3 := ca4.below hb5 (Nat.le_refl _)
  have B5 : Hid (Below w.heap.size w w5) := B4.out.trans (hb5.mono B4.out.size)
  clear hb5 ca4
  have lc : (CL.map B8).length = 32 := by rw [List.length_map]; exact hc0.2.2
  have HX0 : Hid ((CL.map B8)[0]? = some (.int .u8 0) ∧ (CL.map B8)[1]? = some (.int .u8 255)) := by
    have g : ∀ j, j < 32 → (CL.map B8)[j]? = some (B8 (CL.getD j 0)) := fun j hj => by
      rw [List.getElem?_map, List.getElem?_eq_getElem (by omega), List.getD_eq_getElem?_getD, List.getElem?_eq_getElem (by omega)]; rfl
    refine ⟨?_, ?_⟩
    · rw [g 0 (by omega), hc0.1]; rfl
    · rw [g 1 (by omega), hc0.2.1]; rfl
  have r9 := Row.at w5 55 (List.replicate 32 (.int .u8 0)) _ _ rfl rfl
  have b9 : Below w5.heap.size w5 (w5.alloc (.cells (List.replicate 32 (Value.int .u8 0)).toArray 55)) := (Below.refl _ _).alloc (Nat.le_refl _) _
  have HB9 : Hid (Below w5.heap.size w5 (w5.alloc (.cells (List.replicate 32 (Value.int .u8 0)).toArray 55))) := b9
  clear b9 hc0
  generalize hG : w5.heap.size = G at *
  go_wp2_with (refine wpList_store_Row rfl 55 _ _ rfl G 55 0 (List.replicate 32 (.int .u8 0)) (CL.map B8) r9 (by rw [lc]; exact Nat.le_refl _) rfl rfl (by rw [lc]; kernel_rfl) (B8_one _) ?_; intro w6 hr6 hs6)
  have r6 : Hid (Row w6 G 55 (CL.map B8)) := row_whole hr6 (by rw [lc]; exact Nat.le_refl _)
  have b6 : Below w5.heap.size w5 w6 := by rw [hG]; exact hs6.below HB9.out (Nat.le_refl _)
  have ca6 : CAt w6 F s1 S3 := ca5.below b6 (Nat.le_refl _)
  have B6 : Hid (Below w.heap.size w w6) := B5.out.trans (b6.mono B5.out.size)
  clear hr6 hs6 b6 HB9 r9 ca5 hG
  refine (SM.out _).mono ?_
  rintro e w7 ⟨rfl, hb7⟩
  dsimp only
  go_wp2_with fail
  refine (SZ.out _).mono ?_
  rintro e w8 ⟨rfl, hb8⟩
  dsimp only
  have b68 : Below w6.heap.size w6 w8 := hb7.trans (hb8.mono hb7.size)
  have ca8 : CAt w8 F s1 S3 := ca6.below b68 (Nat.le_refl _)
  have r8 := r6.out.below b68 r6.out.lt
  have B8' : Hid (Below w.heap.size w w8) := B6.out.trans (b68.mono B6.out.size)
  have x0 := r8.cell 0 _ HX0.out.1
  have x1 := r8.cell 1 _ HX0.out.2
  clear hb7 hb8 b68 ca6 r8
  go_wp2_with fail
  refine (HAC.out F _ _ ca8).mono ?_
  rintro e w9 ⟨rfl, rfl⟩
  dsimp only
  go_wp2
  go_ret
  exact ⟨rfl, B8'.out⟩
end Go.Proofs.YtcpdanjbnijoiaaGreatDoor


/-! What comes in, laid open: configs, states, steps, bytes. -/
namespace Go.Proofs.YtcpdanjbnijoiaaGreatDoor
set_option maxRecDepth 100000
open Go.ChangeShapes Go.WideShapes Go.ChangeAt Go.RowKit

theorem list_of {α : Type} (p : Nat → α → Prop) : ∀ (n : Nat), (∀ i, i < n → ∃ x, p i x) → ∃ l : List α, l.length = n ∧ ∀ i x, l[i]? = some x → p i x
  | 0, _ => ⟨[], rfl, by simp⟩
  | n + 1, h => by
    obtain ⟨l, h1, h2⟩ := list_of p n (fun i hi => h i (by omega))
    obtain ⟨y, hy⟩ := h n (by omega)
    refine ⟨l ++ [y], by simp [h1], fun i x hx => ?_⟩
    by_cases hi : i < l.length
    · rw [List.getElem?_append_left hi] at hx
      exact h2 i x hx
    · have hl := (List.getElem?_eq_some_iff.1 hx).1
      simp at hl
      obtain rfl : i = l.length := by omega
      rw [List.getElem?_append_right (Nat.le_refl _)] at hx
      simp at hx
      subst hx
      rw [h1]; exact hy

theorem weights_all {H : Type} {P : Program} {e : TypeId} {n : Nat} {d : DataW H} : ∀ {l : List (DataW H)}, d ∈ l → n ∈ d.weights P e → n ∈ DataW.weightsAll P e l
  | [], h, _ => by cases h
  | x :: r, h, hn => by
    simp only [DataW.weightsAll, List.mem_append]
    rcases List.mem_cons.1 h with rfl | h
    · exact .inl hn
    · exact .inr (weights_all h hn)

section
variable {H : Type} {enc : TypeId × Value → H} {W : World} {n : Nat} {cs : List Value} {x : DataW H × List MemPlace}

theorem open_cell (h : DataW.trod enc Tryz.prog W 0 (fun _ => true) true n 55 cs = some x) : ∃ bs : List By, bs.length = 32 ∧ cs = bs.map B8 := by
  obtain ⟨xs, m, rfl, rfl, hl, hx, hel⟩ := DataW.trod_array Tryz.underlying55 h
  rw [Tryz.cellsCell] at hl
  rw [Tryz.cellsU8] at hel
  obtain ⟨bs, hb1, hb2⟩ := list_of (fun i (b : By) => cs[i]? = some (B8 b)) 32 (fun i hi => by
    have h1 := hel i hi
    rw [List.getElem?_eq_getElem (by omega), Nat.mul_one, List.drop_eq_getElem_cons (by omega)] at h1
    obtain ⟨z, e1, _, hw⟩ := DataW.trod_int Tryz.underlying5 h1
    simp only [List.take_succ_cons, List.take_zero] at e1
    injection e1 with e1 _
    have hb := bounds_u8 hw
    refine ⟨BitVec.ofNat 8 z.toNat, ?_⟩
    rw [List.getElem?_eq_getElem (by omega), e1]
    unfold B8
    rw [BitVec.toNat_ofNat]
    congr 2
    omega)
  refine ⟨bs, hb1, ?_⟩
  apply List.ext_getElem?
  intro i
  by_cases hi : i < 32
  · have hbl : i < bs.length := by omega
    rw [hb2 i bs[i] (List.getElem?_eq_getElem hbl), List.getElem?_map, List.getElem?_eq_getElem hbl]; rfl
  · rw [List.getElem?_eq_none (by omega), List.getElem?_eq_none (by rw [List.length_map]; omega)]

theorem add_add (b off i j : Nat) : (Addr.add ⟨b, off, none⟩ i).add j = ⟨b, off + (i + j), none⟩ := by
  rw [Addr.add_mid, Addr.add_mid, Nat.add_assoc]

theorem flat_div (p : List (List By)) (h8 : ∀ x ∈ p, x.length = 32) (j : Nat) (hj : j < p.flatten.length) : p.flatten[j]? = some ((p.getD (j / 32) []).getD (j % 32) 0) ∧ j / 32 < p.length := by
  have hl := flat_len p h8
  have h1 : j / 32 < p.length := by omega
  have := flat_get p h8 (j / 32) (j % 32) h1 (by omega)
  rw [show 32 * (j / 32) + j % 32 = j by omega] at this
  exact ⟨this, h1⟩

theorem open_cells (h : DataW.trod enc Tryz.prog W 0 (fun _ => true) true n 74 cs = some x) (hsz : ∀ k ∈ x.1.weights Tryz.prog 74, k ≤ reachBytes) :
    ∃ (a : Option Addr) (cap : Nat) (p : List (List By)), cs = [.slice a p.length cap] ∧ (∀ x ∈ p, x.length = 32) ∧ IsL W a (p.flatten.map B8) ∧ (a = none → cap = 0) ∧ p.length ≤ cap ∧ p.length * 32 ≤ reachBytes := by
  rcases Deep.open_slice Tryz.underlying74 h with ⟨rfl, rfl⟩ | ⟨a, len, cap, m, n', D, Pl, rfl, hb, hl, hm, hmm, rfl, hel⟩
  · exact ⟨none, 0, [], rfl, by simp, .inl rfl, fun _ => rfl, by simp, by simp⟩
  · rw [Tryz.cellsCell] at hel
    simp at hmm
    subst hmm
    simp only [DataW.weights, Tryz.underlying74] at hsz
    have hlen : len * 32 ≤ reachBytes := by
      have h1 := hsz _ (List.mem_cons_self ..)
      rw [show Tryz.prog.bytesOf 55 = 32 by kernel_rfl] at h1
      simp only [List.length_map, List.length_range] at h1
      have : len * 32 ≤ (len + (m - len)) * 32 := Nat.mul_le_mul_right _ (by omega)
      omega
    by_cases h0 : 0 < len
    · obtain ⟨b, off, spot⟩ := a
      have hspot : spot = none := by
        obtain ⟨cs', h1, _⟩ := hel 0 (by omega)
        obtain ⟨_, hl3, hc⟩ := World.cells?_some h1
        have h2 := hc 0 (by omega)
        rw [List.getElem?_eq_getElem (by omega)] at h2
        simpa [Addr.add] using World.cell?_spot h2
      subst hspot
      obtain ⟨p, hp1, hp2⟩ := list_of (fun i (bs : List By) => bs.length = 32 ∧ ∀ j v, bs[j]? = some v → W.cell? ⟨b, off + (i * 32 + j), none⟩ = some (B8 v)) len (fun i hi => by
        obtain ⟨cs', h1, h2⟩ := hel i (by omega)
        obtain ⟨bs, hb1, rfl⟩ := open_cell h2
        obtain ⟨_, hl3, hc⟩ := World.cells?_some h1
        refine ⟨bs, hb1, fun j v hj => ?_⟩
        have hjl := (List.getElem?_eq_some_iff.1 hj).1
        have h3 := hc j (by omega)
        rw [add_add, List.getElem?_map, hj] at h3
        exact h3)
      subst hp1
      have h8 : ∀ x ∈ p, x.length = 32 := fun x hx => by
        obtain ⟨i, hi⟩ := List.mem_iff_getElem?.1 hx
        exact (hp2 i x hi).1
      refine ⟨some ⟨b, off, none⟩, m, p, rfl, h8, .inr ⟨b, off, rfl, fun j v hj => ?_⟩, (fun e => by cases e), by omega, hlen⟩
      have hjl := (List.getElem?_eq_some_iff.1 hj).1
      rw [List.length_map] at hjl
      obtain ⟨f1, f2⟩ := flat_div p h8 j hjl
      rw [List.getElem?_map, f1] at hj
      injection hj with hj
      subst hj
      have hg : p[j / 32]? = some (p.getD (j / 32) []) := by rw [List.getD_eq_getElem?_getD, List.getElem?_eq_getElem f2]; rfl
      obtain ⟨g1, g2⟩ := hp2 (j / 32) _ hg
      have := g2 (j % 32) ((p.getD (j / 32) []).getD (j % 32) 0) (by rw [List.getD_eq_getElem?_getD (l := p.getD (j / 32) []), List.getElem?_eq_getElem (by omega)]; rfl)
      rw [show j / 32 * 32 + j % 32 = j by omega] at this
      exact this
    · obtain rfl : len = 0 := by omega
      exact ⟨some a, m, [], rfl, by simp, .inl rfl, (fun e => by cases e), by simp, by simp⟩

theorem spot_none {a : Addr} {v : Value} (h : W.cell? a = some v) : a.spot = none := World.cell?_spot h

theorem open_ones {t e bytes : Nat} (ht : Tryz.prog.underlying t = some (.slice e)) (hc : Tryz.prog.cellsOf e = 1) (hby : Tryz.prog.bytesOf e = bytes) {α : Type} (f : α → Value)
    (hel : ∀ (m : Nat) (v : Value) (y : DataW H × List MemPlace), DataW.trod enc Tryz.prog W 0 (fun _ => true) true m e [v] = some y → (∀ k ∈ y.1.weights Tryz.prog e, k ≤ reachBytes) → ∃ z, v = f z)
    (h : DataW.trod enc Tryz.prog W 0 (fun _ => true) true n t cs = some x) (hsz : ∀ k ∈ x.1.weights Tryz.prog t, k ≤ reachBytes) :
    ∃ (a : Option Addr) (cap : Nat) (zs : List α), cs = [.slice a zs.length cap] ∧ IsL W a (zs.map f) ∧ (a = none → cap = 0) ∧ zs.length ≤ cap ∧ zs.length * bytes ≤ reachBytes := by
  rcases Deep.open_slice1 ht hc h with ⟨rfl, rfl⟩ | ⟨a, len, cap, m, n', V, D, Pl, rfl, hb, hl, hm, hmm, rfl, hx⟩
  · exact ⟨none, 0, [], rfl, .inl rfl, fun _ => rfl, by simp, by simp⟩
  · simp at hmm
    subst hmm
    simp only [DataW.weights, ht] at hsz
    have hlen : len * bytes ≤ reachBytes := by
      have h1 := hsz _ (List.mem_cons_self ..)
      rw [hby] at h1
      simp only [List.length_map, List.length_range] at h1
      have : len * bytes ≤ (len + (m - len)) * bytes := Nat.mul_le_mul_right _ (by omega)
      omega
    by_cases h0 : 0 < len
    · obtain ⟨b, off, spot⟩ := a
      have hspot : spot = none := by
        have h1 := (hx 0 (by omega)).1
        simpa [Addr.add] using World.cell?_spot h1
      subst hspot
      obtain ⟨zs, hz1, hz2⟩ := list_of (fun i (z : α) => W.cell? ⟨b, off + i, none⟩ = some (f z)) len (fun i hi => by
        obtain ⟨h1, h2⟩ := hx i (by omega)
        obtain ⟨z, hz⟩ := hel _ _ _ h2 (fun k hk => hsz k (List.mem_cons_of_mem _ (List.mem_append.2 (.inl (weights_all (d := D i) (List.mem_map.2 ⟨i, List.mem_range.2 hi, rfl⟩) hk)))))
        refine ⟨z, ?_⟩
        rw [Addr.add_mid] at h1
        rw [h1, hz])
      subst hz1
      refine ⟨some ⟨b, off, none⟩, m, zs, rfl, .inr ⟨b, off, rfl, fun j v hj => ?_⟩, (fun e => by cases e), by omega, hlen⟩
      rw [List.getElem?_map] at hj
      cases hzj : zs[j]? with
      | none => rw [hzj] at hj; cases hj
      | some z =>
        rw [hzj] at hj
        injection hj with hj
        rw [← hj]
        exact hz2 j z hzj
    · obtain rfl : len = 0 := by omega
      exact ⟨some a, m, [], rfl, .inl rfl, (fun e => by cases e), by simp, by simp⟩

theorem open_intsL (h : DataW.trod enc Tryz.prog W 0 (fun _ => true) true n 25 cs = some x) (hsz : ∀ k ∈ x.1.weights Tryz.prog 25, k ≤ reachBytes) :
    ∃ (a : Option Addr) (cap : Nat) (zs : List Int), cs = [.slice a zs.length cap] ∧ IsL W a (zs.map (Value.int .i64)) ∧ (a = none → cap = 0) ∧ zs.length ≤ cap ∧ zs.length * 8 ≤ reachBytes :=
  open_ones Tryz.underlying25 (by kernel_rfl) (by kernel_rfl) (Value.int .i64) (fun m v y hy _ => by
    obtain ⟨z, e1, _, _⟩ := DataW.trod_int Tryz.underlying3 hy
    injection e1 with e1 _
    exact ⟨z, e1⟩) h hsz
theorem open_boolsL (h : DataW.trod enc Tryz.prog W 0 (fun _ => true) true n 26 cs = some x) (hsz : ∀ k ∈ x.1.weights Tryz.prog 26, k ≤ reachBytes) :
    ∃ (a : Option Addr) (cap : Nat) (zs : List Bool), cs = [.slice a zs.length cap] ∧ IsL W a (zs.map Value.bool) ∧ (a = none → cap = 0) ∧ zs.length ≤ cap ∧ zs.length * 1 ≤ reachBytes :=
  open_ones Tryz.underlying26 (by kernel_rfl) (by kernel_rfl) Value.bool (fun m v y hy _ => by
    cases m with
    | zero => simp [DataW.trod] at hy
    | succ m =>
      unfold DataW.trod at hy
      rw [Tryz.underlying4] at hy
      cases v <;> simp at hy
      exact ⟨_, rfl⟩) h hsz
theorem open_bytesL (h : DataW.trod enc Tryz.prog W 0 (fun _ => true) true n 40 cs = some x) (hsz : ∀ k ∈ x.1.weights Tryz.prog 40, k ≤ reachBytes) :
    ∃ (a : Option Addr) (cap : Nat) (zs : List By), cs = [.slice a zs.length cap] ∧ IsB W a zs ∧ (a = none → cap = 0) ∧ zs.length ≤ cap ∧ zs.length * 1 ≤ reachBytes := by
  obtain ⟨a, cap, zs, e1, e2, e3⟩ := open_ones (α := By) Tryz.underlying40 (by kernel_rfl) (by kernel_rfl : Tryz.prog.bytesOf 5 = 1) B8 (fun m v y hy _ => by
    obtain ⟨z, e1, _, hw⟩ := DataW.trod_int Tryz.underlying5 hy
    injection e1 with e1 _
    have hb := bounds_u8 hw
    refine ⟨BitVec.ofNat 8 z.toNat, ?_⟩
    rw [e1]
    unfold B8
    rw [BitVec.toNat_ofNat]
    congr 1
    omega) h hsz
  refine ⟨a, cap, zs, e1, ?_, e3⟩
  rcases e2 with e2 | ⟨B, off, rfl, hc⟩
  · exact .inl (by simpa using e2)
  · exact .inr ⟨B, off, rfl, fun j v hj => hc j _ (by rw [List.getElem?_map, hj]; rfl)⟩

/-- The pages of a state. -/
theorem open_pages (h : DataW.trod enc Tryz.prog W 0 (fun _ => true) true n 24 cs = some x) (hsz : ∀ k ∈ x.1.weights Tryz.prog 24, k ≤ reachBytes) :
    ∃ (a : Option Addr) (cap : Nat) (zs : List (Option Addr × Nat × List (List By))), cs = [.slice a zs.length cap] ∧ IsL W a (zs.map fun z => .slice z.1 z.2.2.length z.2.1) ∧ (a = none → cap = 0) ∧ zs.length ≤ cap ∧ zs.length * 24 ≤ reachBytes ∧
      ∀ z ∈ zs, (∀ x ∈ z.2.2, x.length = 32) ∧ IsL W z.1 (z.2.2.flatten.map B8) ∧ (z.1 = none → z.2.1 = 0) ∧ z.2.2.length ≤ z.2.1 ∧ z.2.2.length * 32 ≤ reachBytes := by
  obtain ⟨a, cap, zs, e1, e2, e3, e4, e5⟩ := open_ones (α := { z : Option Addr × Nat × List (List By) // (∀ x ∈ z.2.2, x.length = 32) ∧ IsL W z.1 (z.2.2.flatten.map B8) ∧ (z.1 = none → z.2.1 = 0) ∧ z.2.2.length ≤ z.2.1 ∧ z.2.2.length * 32 ≤ reachBytes }) Tryz.underlying24 (by kernel_rfl) (by kernel_rfl : Tryz.prog.bytesOf 74 = 24) (fun z => .slice z.1.1 z.1.2.2.length z.1.2.1) (fun m v y hy hw => by
    obtain ⟨a, cap, p, e1, e2⟩ := open_cells hy hw
    injection e1 with e1 _
    exact ⟨⟨(a, cap, p), e2⟩, e1⟩) h hsz
  refine ⟨a, cap, zs.map (·.1), by rw [List.length_map]; exact e1, by rw [List.map_map]; exact e2, e3, by rw [List.length_map]; exact e4, by rw [List.length_map]; exact e5, ?_⟩
  intro z hz
  obtain ⟨y, hy, rfl⟩ := List.mem_map.1 hz
  exact y.2
end
end Go.Proofs.YtcpdanjbnijoiaaGreatDoor


/-! Configs, states and steps that come in. -/
namespace Go.Proofs.YtcpdanjbnijoiaaGreatDoor
set_option maxRecDepth 100000
open Go.ChangeShapes Go.WideShapes Go.ChangeAt Go.RowKit

section
variable {H : Type} {enc : TypeId × Value → H} {W : World} {n : Nat} {cs : List Value} {x : DataW H × List MemPlace}

theorem int_at {m i : Nat} {xs : List (DataW H × List MemPlace)} (hl : i < cs.length) (hx : i < xs.length) (h : DataW.trod enc Tryz.prog W 0 (fun _ => true) true m 3 ((cs.drop i).take (Tryz.prog.cellsOf 3)) = xs[i]?) : ∃ z, cs[i]? = some (.int .i64 z) ∧ -9223372036854775808 ≤ z ∧ z < 9223372036854775808 := by
  rw [show Tryz.prog.cellsOf 3 = 1 by kernel_rfl, List.getElem?_eq_getElem hx, List.drop_eq_getElem_cons hl] at h
  obtain ⟨z, e1, _, hw⟩ := DataW.trod_int Tryz.underlying3 h
  simp only [List.take_succ_cons, List.take_zero] at e1
  injection e1 with e1 _
  refine ⟨z, by rw [List.getElem?_eq_getElem hl, e1], ?_⟩
  simp only [Lit.wf, IntKind.min, IntKind.max, IntKind.signed, IntKind.bits, Bool.and_eq_true, decide_eq_true_eq] at hw
  simp at hw
  omega

theorem seven {v0 v1 v2 v3 v4 v5 v6 : Value} (hl : cs.length = 7) (h0 : cs[0]? = some v0) (h1 : cs[1]? = some v1) (h2 : cs[2]? = some v2) (h3 : cs[3]? = some v3) (h4 : cs[4]? = some v4) (h5 : cs[5]? = some v5) (h6 : cs[6]? = some v6) : cs = [v0, v1, v2, v3, v4, v5, v6] := by
  match cs, hl with
  | [a0, a1, a2, a3, a4, a5, a6], _ =>
    simp at h0 h1 h2 h3 h4 h5 h6
    subst h0 h1 h2 h3 h4 h5 h6; rfl

theorem open_cfg (h : DataW.trod enc Tryz.prog W 0 (fun _ => true) true n 23 cs = some x) : ∃ c : Cfg, cs = c.vals := by
  obtain ⟨xs, m, rfl, rfl, hl, hx, hf⟩ := DataW.trod_struct Tryz.underlying23 h
  have hl7 : cs.length = 7 := by rw [hl]; kernel_rfl
  have hx7 : xs.length = 7 := hx
  obtain ⟨z0, e0, _⟩ := int_at (i := 0) (by omega) (by omega) (hf 0 _ rfl)
  obtain ⟨z1, e1, _⟩ := int_at (i := 1) (by omega) (by omega) (hf 1 _ rfl)
  obtain ⟨z2, e2, _⟩ := int_at (i := 2) (by omega) (by omega) (hf 2 _ rfl)
  obtain ⟨z3, e3, _⟩ := int_at (i := 3) (by omega) (by omega) (hf 3 _ rfl)
  obtain ⟨z4, e4, _⟩ := int_at (i := 4) (by omega) (by omega) (hf 4 _ rfl)
  obtain ⟨z5, e5, _⟩ := int_at (i := 5) (by omega) (by omega) (hf 5 _ rfl)
  obtain ⟨z6, e6, _⟩ := int_at (i := 6) (by omega) (by omega) (hf 6 _ rfl)
  exact ⟨⟨z0, z1, z2, z3, z4, z5, z6⟩, seven hl7 e0 e1 e2 e3 e4 e5 e6⟩

/-- What is known of a state that came in. -/
structure StIn (W : World) (v : SV) (t : St) : Prop where
  view : StV W v t
  en : v.eo = none → v.ec = 0
  bn : v.bo = none → v.bc = 0
  pn : ∀ B off p k qc, v.po = some ⟨B, off, none⟩ → p < t.pages.length → W.cell? ⟨B, off + p, none⟩ = some (.slice none k qc) → qc = 0
  l1 : t.pages.length * 24 ≤ reachBytes
  l2 : t.erases.length * 8 ≤ reachBytes
  l3 : t.blown.length ≤ reachBytes
  lp : ∀ p ∈ t.pages, p.length * 32 ≤ reachBytes

theorem one_take (i : Nat) (h : i < cs.length) : (cs.drop i).take 1 = [cs[i]] := by
  rw [List.drop_eq_getElem_cons h]; rfl

theorem open_state (h : DataW.trod enc Tryz.prog W 0 (fun _ => true) true n 28 cs = some x) (hsz : ∀ k ∈ x.1.weights Tryz.prog 28, k ≤ reachBytes) : ∃ (v : SV) (t : St), cs = v.vals t ∧ StIn W v t := by
  obtain ⟨y0, y1, y2, m, rfl, hl, t0, t1, t2⟩ := Deep.trod_struct3 Tryz.underlying28 h
  have hl3 : cs.length = 3 := by rw [hl]; kernel_rfl
  have hw : ∀ (j : Nat) (T : TypeId) (d : DataW H), [24, 25, 26][j]? = some T → [y0.1, y1.1, y2.1][j]? = some d → ∀ k ∈ d.weights Tryz.prog T, k ≤ reachBytes := by
    intro j T d h1 h2 k hk
    refine hsz k ?_
    simp only [DataW.weights, Tryz.underlying28]
    exact DataW.weights_mem_each (j := j) (t := T) (d := d) h1 h2 k hk
  obtain ⟨po, pc, zs, e0, i0, n0, _, b0, f0⟩ := open_pages t0 (hw 0 _ _ rfl rfl)
  obtain ⟨eo, ec, es, e1, i1, n1, _, b1⟩ := open_intsL t1 (hw 1 _ _ rfl rfl)
  obtain ⟨bo, bc, bs, e2, i2, n2, _, b2⟩ := open_boolsL t2 (hw 2 _ _ rfl rfl)
  refine ⟨⟨po, pc, eo, ec, bo, bc⟩, ⟨zs.map (·.2.2), es, bs⟩, ?_, ?_⟩
  · match cs, hl3 with
    | [a0, a1, a2], _ =>
      rw [show Tryz.prog.cellsOf _ = 1 by kernel_rfl] at e0 e1 e2
      simp only [List.drop_zero, List.take_succ_cons, List.take_zero, List.drop_succ_cons] at e0 e1 e2
      injection e0 with e0 _
      injection e1 with e1 _
      injection e2 with e2 _
      subst e0 e1 e2
      simp [SV.vals]
  · have hpg : StV W ⟨po, pc, eo, ec, bo, bc⟩ ⟨zs.map (·.2.2), es, bs⟩ := by
      refine ⟨⟨zs.map (fun z => (z.1, z.2.1)), by simp, ?_, ?_⟩, i1, i2, ?_⟩
      · have : List.zipWith (fun (q : Option Addr × Nat) p => Value.slice q.1 (List.length p) q.2) (zs.map (fun z => (z.1, z.2.1))) (zs.map (·.2.2)) = zs.map fun z => .slice z.1 z.2.2.length z.2.1 := by
          rw [List.zipWith_map]
          clear i0 e0 b0 f0
          induction zs with
          | nil => rfl
          | cons z zs ih => simp
        show IsL W po (List.zipWith _ (zs.map (fun z => (z.1, z.2.1))) (zs.map (·.2.2)))
        rw [this]; exact i0
      · intro i q p hq hp
        rw [List.getElem?_map] at hq
        have hp' : (zs.map (·.2.2))[i]? = some p := hp
        rw [List.getElem?_map] at hp'
        cases hz : zs[i]? with
        | none => rw [hz] at hq; cases hq
        | some z =>
          rw [hz] at hq hp'
          injection hq with hq
          injection hp' with hp'
          subst hq hp'
          exact (f0 z (List.mem_of_getElem? hz)).2.1
      · intro p hp
        obtain ⟨z, hz, rfl⟩ := List.mem_map.1 hp
        exact (f0 z hz).1
    refine ⟨hpg, n1, n2, ?_, by simpa using b0, b1, by show bs.length ≤ _; omega, ?_⟩
    · intro B off p k qc h1 h2 h3
      have h2' : p < zs.length := by simpa using h2
      rcases i0 with h0 | ⟨B', off', h4, hc⟩
      · have : zs.length = 0 := by have := congrArg List.length h0; simpa using this
        omega
      · have h4' : po = some ⟨B', off', none⟩ := h4
        have h1' : po = some ⟨B, off, none⟩ := h1
        rw [h4'] at h1'
        injection h1' with h1'
        injection h1' with g1 g2
        subst g1 g2
        have h5 := hc p _ (by rw [List.getElem?_map, List.getElem?_eq_getElem h2']; rfl)
        rw [h5] at h3
        injection h3 with h3
        injection h3 with g1 g2 g3
        have := (f0 zs[p] (List.getElem_mem h2')).2.2.1 g1
        omega
    · intro p hp
      obtain ⟨z, hz, rfl⟩ := List.mem_map.1 hp
      exact (f0 z hz).2.2.2.2

end
end Go.Proofs.YtcpdanjbnijoiaaGreatDoor
