
import Derived.Test.YtjooabgjkjnhhaaDoorV24L
/-! The code's token: Get. -/
namespace Go.Proofs.YtjooabgjkjnhhaaDoor
open Go.RowKit
set_option linter.unusedVariables false
set_option linter.unusedSimpArgs false
set_option maxRecDepth 100000

set_option maxHeartbeats 8000000 in
theorem get_any (ao : Option Addr) (cap : Nat) (b : List By) (w : World) (hb : IsB w ao b) (hcap : b.length ≤ cap) (hnil : ao = none → cap = 0) (hbig : b.length ≤ 140737488351232) : Calls Tryd.prog 11 #[.slice ao b.length cap] w (CGetP b w) := by
  obtain ⟨W1, hW1⟩ : ∃ W1, W1 = (w.alloc (.cells zTk.toArray 36)).alloc (.cells zTk.toArray 36) := ⟨_, rfl⟩
  have H0 : Hid (GI w b 0 W1) := .head (by omega) (by omega) rfl (by rw [hW1]; exact GTk.start w)
  have HIB : Hid (∀ W, Below w.heap.size w W → IsB W ao b) := fun W hW => hb.below hW (Nat.le_refl _)
  obtain ⟨n, hn⟩ : ∃ n, b.length = n := ⟨_, rfl⟩
  have HN : Hid (b.length = n) := hn
  rw [hn] at hcap hbig ⊢
  have HCAP : Hid (n ≤ cap ∧ n ≤ 140737488351232) := ⟨hcap, hbig⟩
  clear hb hn hcap hbig hnil
  go_enter Tryd.func11, Tryd.ntmps11
  go_wp2
  go_step3
  go_wp2
  go_step3
  go_wp2
  go_loopw [5, 6] (fun av ev wr => ∃ p : Nat, p ≤ n ∧ av = .int .i64 (p : Int) ∧ ev = .int .i64 0 ∧ Hid (GI w b p wr)) (fun av _ _ => n - (intOf av).toNat)
  case atStart => exact ⟨0, by omega, rfl, rfl, by rw [hW1] at H0; exact H0⟩
  case round =>
    obtain ⟨p, hpn, rfl, rfl, HI⟩ := hrel
    clear H0 hW1 W1
    have HPN : Hid (p ≤ n) := hpn
    clear hpn
    have zs : IntKind.i64.wrap ((n : Int) - (p : Int)) = (n : Int) - (p : Int) := i64_in _ (by have := HPN.out; omega) (by have := HCAP.out; omega)
    rcases HI.out with ⟨h8, hp, hs, g⟩ | ⟨j, LC, io, ic, lo, lc, hs, hl, hj, hLC, hp, hb, hc, g⟩ | ⟨LC, io, ic, lo, lc, hs, hl, hc, hp, hb, g⟩
    · by_cases hp8 : p < 8
      · have HG : Hid (GTk w [] none 0 [] none 0 (List.replicate 32 0) wr) := g
        have FP := partAt_head ao n cap p hp8 wr
        have es : 8 - p = (7 - p) + 1 := by omega
        by_cases hpe : p = n
        · have HX : Hid (getR b = .error (6, n)) := getR_scan (by rw [hs, es, scan24, HN.out, if_pos hpe, hpe])
          have yl : (n : Int) - (p : Int) < 1 := by omega
          clear hs g HI hp es hpe hp8 h8 HIB HN HCAP HPN
          obtain ⟨W7, hW7⟩ : ∃ W7, W7 = wr.alloc (.cells #[.int .i64 6, .int .i64 (n : Int)] 83) := ⟨_, rfl⟩
          have R7 : Hid (Row W7 w.heap.size 36 zTk ∧ Row W7 wr.heap.size 83 [.int .i64 (6 : Int), .int .i64 (n : Int)] ∧ Below w.heap.size w W7) := by
            show _ ∧ _ ∧ _; rw [hW7]; exact ⟨HG.out.res.alloc _, Row.at _ 83 [.int .i64 (6 : Int), .int .i64 (n : Int)] _ _ rfl rfl, HG.out.bel.alloc HG.out.bel.size _⟩
          have HZ7 : Hid (w.heap.size + 2 ≤ wr.heap.size) := HG.out.id.2
          go_wp2_with (first
            | (go_at_call 24; refine FP.mono ?_; clear FP; rintro e w4 ⟨rfl, hw4⟩; rw [hw4]; clear hw4 w4)
            | (have hz := hW7; clear hz; refine wpList_at24 hW7 ?_; clear hW7)
            | (have hz := R7; clear hz; refine wpList_store_Row rfl 36 (.tmp 2) _ rfl w.heap.size 36 0 zTk zTk R7.out.1 (Nat.le_refl _) rfl rfl (by kernel_rfl) (tkC_one _ _ _ _ _ _ _ _) ?_; intro w8 hr8 hs8; have q8 := row_whole hr8 (by simp); have H8 : Hid (CGetP b w (.returned (.tuple #[.agg zTk.toArray, .iface 82 (.pointer (some ⟨wr.heap.size, 0, none⟩))])) w8) := CGetP.bad (E := 6) (A := n) (hs8.below R7.out.2.2 (Nat.le_refl _)) (R7.out.2.1.but hs8 (by have := HZ7.out; omega)) HX.out; clear R7 hr8 hs8))
          rw [Exit.noGoto_ret]
          refine bodyPost_ret_by (results_rowtmp Tryd.results11 _ w8 w.heap.size 36 _ _ rfl q8 Tryd.underlying36 rfl (by kernel_rfl)) rfl ?_
          exact H8.out
        · have hlt : p < n := by have := HPN.out; omega
          have HLT : Hid (p < n ∧ p < 8) := ⟨hlt, hp8⟩
          have yl : ¬ (n : Int) - (p : Int) < 1 := by omega
          obtain ⟨B, off, rfl⟩ : ∃ B off, ao = some ⟨B, off, none⟩ := by
            rcases HIB.out wr HG.out.bel with e0 | ⟨B, off, e, _⟩
            · first | (rw [e0] at hn8; simp at hn8; done) | (have h9 := HN.out; rw [e0] at h9; simp at h9; omega)
            · exact ⟨B, off, e⟩
          have cb := bytes_at (HIB.out wr HG.out.bel) (Below.refl _ _) p (by have := HN.out; omega)
          have FF := fits_any p hp8 (b.getD p 0) wr
          have HSC : Hid (∀ v, v = hd24 p (b.getD p 0).toNat → (v = false → getR b = .error (5, p)) ∧ (v = true → scan24 b 0 8 = scan24 b (p + 1) (8 - (p + 1)))) := fun v hv => by
            have e1 : scan24 b 0 8 = if hd24 p (b.getD p 0).toNat then scan24 b (p + 1) (7 - p) else some (5, p) := by rw [hs, es, scan24, if_neg (by rw [HN.out]; exact hpe)]
            refine ⟨fun e => getR_scan (by rw [e1, ← hv, e]; rfl), fun e => ?_⟩
            rw [e1, ← hv, e, if_pos rfl, show 8 - (p + 1) = 7 - p by omega]
          obtain ⟨v, hv⟩ : ∃ v, v = hd24 p (b.getD p 0).toNat := ⟨_, rfl⟩
          obtain ⟨x1, x2⟩ := HSC.out v hv
          rw [← hv] at FF
          have y0 : (0 : Int) ≤ (p : Int) := by omega
          have y1 : (p : Int) < (n : Int) := by omega
          have y2 : (p : Int) + 1 ≤ (cap : Int) := by have := HCAP.out; omega
          have z1 : IntKind.i64.wrap ((p : Int) + 1) = (p : Int) + 1 := i64_in _ (by omega) (by have := HCAP.out; omega)
          have t1 : ((p : Int) + 1).toNat = p + 1 := by omega
          have vc : ¬ cap = p := by have := HCAP.out; omega
          clear hs g HI hp es HSC hv hpe hlt hp8 h8
          generalize (b.getD p 0).toNat = kk at *
          cases v with
          | false =>
            have HX : Hid (getR b = .error (5, p)) := x1 rfl
            clear x1 x2
            obtain ⟨W7, hW7⟩ : ∃ W7, W7 = wr.alloc (.cells #[.int .i64 5, .int .i64 (p : Int)] 83) := ⟨_, rfl⟩
            have R7 : Hid (Row W7 w.heap.size 36 zTk ∧ Row W7 wr.heap.size 83 [.int .i64 (5 : Int), .int .i64 (p : Int)] ∧ Below w.heap.size w W7) := by
              show _ ∧ _ ∧ _; rw [hW7]; exact ⟨HG.out.res.alloc _, Row.at _ 83 [.int .i64 (5 : Int), .int .i64 (p : Int)] _ _ rfl rfl, HG.out.bel.alloc HG.out.bel.size _⟩
            have HZ7 : Hid (w.heap.size + 2 ≤ wr.heap.size) := HG.out.id.2
            go_wp2_with (first
              | (go_at_call 24; refine FP.mono ?_; clear FP; rintro e w4 ⟨rfl, hw4⟩; rw [hw4]; clear hw4 w4)
              | (go_at_call 25; refine FF.mono ?_; clear FF; rintro e w4 ⟨rfl, hw4⟩; rw [hw4]; clear hw4 w4)
              | (have hz := hW7; clear hz; refine wpList_at24 hW7 ?_; clear hW7)
              | (have hz := R7; clear hz; refine wpList_store_Row rfl 36 (.tmp 2) _ rfl w.heap.size 36 0 zTk zTk R7.out.1 (Nat.le_refl _) rfl rfl (by kernel_rfl) (tkC_one _ _ _ _ _ _ _ _) ?_; intro w8 hr8 hs8; have q8 := row_whole hr8 (by simp); have H8 : Hid (CGetP b w (.returned (.tuple #[.agg zTk.toArray, .iface 82 (.pointer (some ⟨wr.heap.size, 0, none⟩))])) w8) := CGetP.bad (E := 5) (A := p) (hs8.below R7.out.2.2 (Nat.le_refl _)) (R7.out.2.1.but hs8 (by have := HZ7.out; omega)) HX.out; clear R7 hr8 hs8))
            rw [Exit.noGoto_ret]
            refine bodyPost_ret_by (results_rowtmp Tryd.results11 _ w8 w.heap.size 36 _ _ rfl q8 Tryd.underlying36 rfl (by kernel_rfl)) rfl ?_
            exact H8.out
          | true =>
            have HNX : Hid (GI w b (p + 1) wr) := .head (by have := HLT.out; omega) (by have := HLT.out; have := HN.out; omega) (x2 rfl) HG.out
            clear x1 x2
            go_wp2_with (first
              | (go_at_call 24; refine FP.mono ?_; clear FP; rintro e w4 ⟨rfl, hw4⟩; rw [hw4]; clear hw4 w4)
              | (go_at_call 25; refine FF.mono ?_; clear FF; rintro e w4 ⟨rfl, hw4⟩; rw [hw4]; clear hw4 w4))
            exact ⟨⟨p + 1, by have := HLT.out; omega, by go_num, rfl, HNX⟩, by have := HLT.out; simp [intOf]; omega⟩
      · have HP8 : Hid (p = 8) := by show _ = _; omega
        have HG : Hid (GTk w [] none 0 [] none 0 (List.replicate 32 0) wr) := g
        have HS : Hid (scan24 b 0 8 = none) := by show _ = _; rw [hs, HP8.out]; rfl
        have hn8 := (scan_k HS.out).1
        case _ =>
          obtain ⟨B, off, rfl⟩ : ∃ B off, ao = some ⟨B, off, none⟩ := by
            rcases HIB.out wr HG.out.bel with e0 | ⟨B, off, e, _⟩
            · first | (rw [e0] at hn8; simp at hn8; done) | (have h9 := HN.out; rw [e0] at h9; simp at h9; omega)
            · exact ⟨B, off, e⟩
          obtain ⟨k6, hk6⟩ : ∃ k, k = (b.getD 6 0).toNat := ⟨_, rfl⟩
          obtain ⟨k7, hk7⟩ : ∃ k, k = (b.getD 7 0).toNat := ⟨_, rfl⟩
          have HK : Hid (k6 = (b.getD 6 0).toNat ∧ k7 = (b.getD 7 0).toNat ∧ 1 ≤ k6 ∧ k6 ≤ 64 ∧ k7 ≤ 32 ∧ 8 ≤ n) := by
            have := scan_k HS.out; have := HN.out
            exact ⟨hk6, hk7, by omega, by omega, by omega, by omega⟩
          have c6 := bytes_at (HIB.out wr HG.out.bel) (Below.refl _ _) 6 (by have := HN.out; have := HK.out; omega)
          have c7 := bytes_at (HIB.out wr HG.out.bel) (Below.refl _ _) 7 (by have := HN.out; have := HK.out; omega)
          rw [← hk6] at c6
          rw [← hk7] at c7
          have FP := partAt_rest B off n cap k6 k7 p (by have := HP8.out; omega) (by have := HK.out; omega) (by have := HK.out; omega) (by have := HK.out; omega) (by have := HPN.out; have := HCAP.out; omega) wr c6 c7
          have ePR : partR k6 k7 p = (1, k6) := by unfold partR; rw [if_pos HP8.out]
          rw [ePR] at FP
          have FP : Calls Tryd.prog 24 #[.slice (some ⟨B, off, none⟩) n cap, .int .i64 (p : Int)] wr fun e w' => e = .returned (.tuple #[.int .i64 1, .int .i64 (k6 : Int)]) ∧ w' = wr := FP
          clear h8 hp hs g HI hp8 c6 c7 ePR hn8
          by_cases hsh : n < p + k6
          · have HX : Hid (getR b = .error (6, n)) := by
              show _ = _
              have h9 := getR_id HS.out (by rw [← hk6]; have := HN.out; have := HP8.out; omega)
              rw [HN.out] at h9; exact h9
            have yl : (n : Int) - (p : Int) < (k6 : Int) := by omega
            clear hk6 hk7 hsh
            obtain ⟨W7, hW7⟩ : ∃ W7, W7 = wr.alloc (.cells #[.int .i64 6, .int .i64 (n : Int)] 83) := ⟨_, rfl⟩
            have R7 : Hid (Row W7 w.heap.size 36 zTk ∧ Row W7 wr.heap.size 83 [.int .i64 (6 : Int), .int .i64 (n : Int)] ∧ Below w.heap.size w W7) := by
              show _ ∧ _ ∧ _; rw [hW7]; exact ⟨HG.out.res.alloc _, Row.at _ 83 [.int .i64 (6 : Int), .int .i64 (n : Int)] _ _ rfl rfl, HG.out.bel.alloc HG.out.bel.size _⟩
            have HZ7 : Hid (w.heap.size + 2 ≤ wr.heap.size) := HG.out.id.2
            go_wp2_with (first
              | (go_at_call 24; refine FP.mono ?_; clear FP; rintro e w4 ⟨rfl, hw4⟩; rw [hw4]; clear hw4 w4)
              | (have hz := hW7; clear hz; refine wpList_at24 hW7 ?_; clear hW7)
              | (have hz := R7; clear hz; refine wpList_store_Row rfl 36 (.tmp 2) _ rfl w.heap.size 36 0 zTk zTk R7.out.1 (Nat.le_refl _) rfl rfl (by kernel_rfl) (tkC_one _ _ _ _ _ _ _ _) ?_; intro w8 hr8 hs8; have q8 := row_whole hr8 (by simp); have H8 : Hid (CGetP b w (.returned (.tuple #[.agg zTk.toArray, .iface 82 (.pointer (some ⟨wr.heap.size, 0, none⟩))])) w8) := CGetP.bad (E := 6) (A := n) (hs8.below R7.out.2.2 (Nat.le_refl _)) (R7.out.2.1.but hs8 (by have := HZ7.out; omega)) HX.out; clear R7 hr8 hs8))
            rw [Exit.noGoto_ret]
            refine bodyPost_ret_by (results_rowtmp Tryd.results11 _ w8 w.heap.size 36 _ _ rfl q8 Tryd.underlying36 rfl (by kernel_rfl)) rfl ?_
            exact H8.out
          · have yl : ¬ (n : Int) - (p : Int) < (k6 : Int) := by omega
            have HL : Hid (p + k6 ≤ n) := by show _ ≤ _; omega
            have y0 : (0 : Int) ≤ (p : Int) := by omega
            have y1 : (p : Int) ≤ (p : Int) + (k6 : Int) := by omega
            have y2 : (p : Int) + (k6 : Int) ≤ (cap : Int) := by have := HCAP.out; omega
            have z1 : IntKind.i64.wrap ((p : Int) + (k6 : Int)) = (p : Int) + (k6 : Int) := i64_in _ (by omega) (by have := HCAP.out; omega)
            have t1 : ((p : Int) + (k6 : Int)).toNat = p + k6 := by omega
            have t2 : p + k6 - p = k6 := by omega
            have vc : ¬ cap = p := by have := HCAP.out; have := HK.out; omega
            have hid : ((b.drop p).take k6).length = k6 := by rw [List.length_take, List.length_drop, HN.out]; omega
            have FC := tcopied_any (some ⟨B, off + p, none⟩) k6 (cap - p) ((b.drop p).take k6) hid wr (isB_part (HIB.out wr HG.out.bel) p k6) (by have := HK.out; omega)
            have HID : Hid ((b.drop p).take k6 = (b.drop 8).take (b.getD 6 0).toNat ∧ ((b.drop p).take k6).length = k6) := ⟨by rw [HP8.out, hk6], hid⟩
            have HNX : Hid (∀ w5, Own wr.heap.size w5 (.slice (some ⟨wr.heap.size, 0, none⟩) k6 k6) ((b.drop p).take k6) → Below wr.heap.size wr w5 → GI w b (p + k6) (w5.setCell ⟨w.heap.size + 1, 1, none⟩ (.slice (some ⟨wr.heap.size, 0, none⟩) k6 k6))) := fun w5 ho hb5 => by
              have h1 := HID.out.1
              have h2 := HID.out.2
              rw [h1] at h2
              have hg := HG.out.setid (id2 := (b.drop 8).take (b.getD 6 0).toNat) (B := wr.heap.size) (by rw [h2, ← h1]; exact ho) hb5
              rw [h2] at hg
              have e8 := HP8.out
              have e6 := HK.out.1
              refine .cavs 0 [] _ _ none 0 HS.out (by rw [HN.out, ← e6]; have := HL.out; omega) (by omega) rfl (by omega) (by rw [HN.out]; exact HL.out) ?_ hg
              unfold csT
              rw [← e6, show p + k6 = 8 + k6 by omega, Nat.sub_zero]
              cases csR b (8 + k6) (b.getD 7 0).toNat <;> rfl
            have HCC : Hid (∀ w5, Below wr.heap.size wr w5 → w5.cell? ⟨w.heap.size + 1, 1, none⟩ = some (.slice none 0 0) ∧ w5.frozen? ⟨w.heap.size + 1, 1, none⟩ = false) := fun w5 hb5 => ⟨(HG.out.keep hb5).t.cell 1 _ rfl, (HG.out.keep hb5).t.frozen 1⟩
            clear hk6 hk7 hsh hid
            go_wp2_with (first
              | (go_at_call 24; refine FP.mono ?_; clear FP; rintro e w4 ⟨rfl, hw4⟩; rw [hw4]; clear hw4 w4)
              | (go_at_call 26; refine FC.mono ?_; clear FC; rintro e w5 ⟨rfl, ho5, hb5⟩; have cc5 := (HCC.out w5 hb5).1; have fz5 := (HCC.out w5 hb5).2; have H5 : Hid (GI w b (p + k6) (w5.setCell ⟨w.heap.size + 1, 1, none⟩ (.slice (some ⟨wr.heap.size, 0, none⟩) k6 k6))) := HNX.out w5 ho5 hb5; clear ho5 hb5 HNX HCC))
            exact ⟨⟨p + k6, HL.out, by go_num, rfl, H5⟩, by have := HL.out; have := HK.out; simp [intOf]; omega⟩
    · have HG : Hid (GTk w ((b.drop 8).take (b.getD 6 0).toNat) io ic LC lo lc (List.replicate 32 0) wr) := g
      have HS : Hid (scan24 b 0 8 = none) := hs
      have hn8 := (scan_k HS.out).1
      case _ =>
          obtain ⟨B, off, rfl⟩ : ∃ B off, ao = some ⟨B, off, none⟩ := by
            rcases HIB.out wr HG.out.bel with e0 | ⟨B, off, e, _⟩
            · first | (rw [e0] at hn8; simp at hn8; done) | (have h9 := HN.out; rw [e0] at h9; simp at h9; omega)
            · exact ⟨B, off, e⟩
          obtain ⟨k6, hk6⟩ : ∃ k, k = (b.getD 6 0).toNat := ⟨_, rfl⟩
          obtain ⟨k7, hk7⟩ : ∃ k, k = (b.getD 7 0).toNat := ⟨_, rfl⟩
          have HK : Hid (k6 = (b.getD 6 0).toNat ∧ k7 = (b.getD 7 0).toNat ∧ 1 ≤ k6 ∧ k6 ≤ 64 ∧ k7 ≤ 32 ∧ 8 ≤ n) := by
            have := scan_k HS.out; have := HN.out
            exact ⟨hk6, hk7, by omega, by omega, by omega, by omega⟩
          have HPP : Hid (p = 8 + k6 + 26 * j ∧ 8 + k6 ≤ n ∧ j ≤ k7 ∧ LC.length = j) := ⟨by rw [hk6]; exact hp, by rw [hk6, ← HN.out]; exact hl, by rw [hk7]; exact hj, hLC⟩
          rw [← hk6, ← hk7] at hc
          have c6 := bytes_at (HIB.out wr HG.out.bel) (Below.refl _ _) 6 (by have := HN.out; have := HK.out; omega)
          have c7 := bytes_at (HIB.out wr HG.out.bel) (Below.refl _ _) 7 (by have := HN.out; have := HK.out; omega)
          rw [← hk6] at c6
          rw [← hk7] at c7
          have FP := partAt_rest B off n cap k6 k7 p (by have := HPP.out; omega) (by have := HK.out; omega) (by have := HK.out; omega) (by have := HK.out; omega) (by have := HPN.out; have := HCAP.out; omega) wr c6 c7
          clear hs hl hj hLC hp hb g HI c6 c7 hn8
          by_cases hjk : j < k7
          · have ePR : partR k6 k7 p = (2, 26) := by unfold partR; rw [if_neg (by have := HPP.out; have := HK.out; omega), if_pos (by have := HPP.out; omega)]
            rw [ePR] at FP
            have FP : Calls Tryd.prog 24 #[.slice (some ⟨B, off, none⟩) n cap, .int .i64 (p : Int)] wr fun e w' => e = .returned (.tuple #[.int .i64 2, .int .i64 26]) ∧ w' = wr := FP
            obtain ⟨m, hm⟩ : ∃ m, k7 - j = m + 1 := ⟨k7 - j - 1, by omega⟩
            rw [hm] at hc
            have HT : Hid (csT b p (m + 1) LC k7 (8 + k6)) := hc
            have HGE : Hid (∀ x, csR b p (m + 1) = .error x → getR b = .error x) := fun x hx => getR_cs HS.out (by rw [← hk6, HN.out]; have := HPP.out; omega) (by rw [← hk6, ← hk7]; exact csT_bad HT.out hx)
            have HMJ : Hid (m = k7 - (j + 1) ∧ j < k7) := ⟨by omega, hjk⟩
            clear ePR hc hm hjk
            by_cases hsh : n < p + 26
            · have HX : Hid (getR b = .error (6, n)) := HGE.out _ (by rw [csR, HN.out, if_pos hsh])
              have yl : (n : Int) - (p : Int) < 26 := by omega
              clear hk6 hk7 hsh
              obtain ⟨W7, hW7⟩ : ∃ W7, W7 = wr.alloc (.cells #[.int .i64 6, .int .i64 (n : Int)] 83) := ⟨_, rfl⟩
              have R7 : Hid (Row W7 w.heap.size 36 zTk ∧ Row W7 wr.heap.size 83 [.int .i64 (6 : Int), .int .i64 (n : Int)] ∧ Below w.heap.size w W7) := by
                show _ ∧ _ ∧ _; rw [hW7]; exact ⟨HG.out.res.alloc _, Row.at _ 83 [.int .i64 (6 : Int), .int .i64 (n : Int)] _ _ rfl rfl, HG.out.bel.alloc HG.out.bel.size _⟩
              have HZ7 : Hid (w.heap.size + 2 ≤ wr.heap.size) := HG.out.id.2
              go_wp2_with (first
                | (go_at_call 24; refine FP.mono ?_; clear FP; rintro e w4 ⟨rfl, hw4⟩; rw [hw4]; clear hw4 w4)
                | (have hz := hW7; clear hz; refine wpList_at24 hW7 ?_; clear hW7)
                | (have hz := R7; clear hz; refine wpList_store_Row rfl 36 (.tmp 2) _ rfl w.heap.size 36 0 zTk zTk R7.out.1 (Nat.le_refl _) rfl rfl (by kernel_rfl) (tkC_one _ _ _ _ _ _ _ _) ?_; intro w8 hr8 hs8; have q8 := row_whole hr8 (by simp); have H8 : Hid (CGetP b w (.returned (.tuple #[.agg zTk.toArray, .iface 82 (.pointer (some ⟨wr.heap.size, 0, none⟩))])) w8) := CGetP.bad (E := 6) (A := n) (hs8.below R7.out.2.2 (Nat.le_refl _)) (R7.out.2.1.but hs8 (by have := HZ7.out; omega)) HX.out; clear R7 hr8 hs8))
              rw [Exit.noGoto_ret]
              refine bodyPost_ret_by (results_rowtmp Tryd.results11 _ w8 w.heap.size 36 _ _ rfl q8 Tryd.underlying36 rfl (by kernel_rfl)) rfl ?_
              exact H8.out
            · have yl : ¬ (n : Int) - (p : Int) < 26 := by omega
              have HL : Hid (p + 26 ≤ n) := by show _ ≤ _; omega
              have y0 : (0 : Int) ≤ (p : Int) := by omega
              have y1 : (p : Int) ≤ (p : Int) + 26 := by omega
              have y2 : (p : Int) + 26 ≤ (cap : Int) := by have := HCAP.out; omega
              have z1 : IntKind.i64.wrap ((p : Int) + 26) = (p : Int) + 26 := i64_in _ (by omega) (by have := HCAP.out; omega)
              have t1 : ((p : Int) + 26).toNat = p + 26 := by omega
              have vc : ¬ cap = p := by have := HCAP.out; omega
              have h26 : ((b.drop p).take 26).length = 26 := by rw [List.length_take, List.length_drop, HN.out]; omega
              have FO := cavOf_any B (off + p) (cap - p) ((b.drop p).take 26) h26 (by have := HCAP.out; omega) wr (isB_part (HIB.out wr HG.out.bel) p 26)
              rw [cvAt_take] at FO
              have HOK : Hid ((cvAt (b.drop p)).ok) := cvAt_ok _
              have HV : Hid (∀ v, v = cvMay (cvAt (b.drop p)) → (v = false → getR b = .error (5, p)) ∧ (v = true → csT b (p + 26) m (LC ++ [cvAt (b.drop p)]) k7 (8 + k6))) := fun v hv => by
                refine ⟨fun e => HGE.out _ (by rw [csR, HN.out, if_neg hsh, ← hv, e]; rfl), fun e => csT_next HT.out (by rw [HN.out]; exact hsh) (by rw [← hv, e])⟩
              obtain ⟨⟨ck, cs, cf, ct, cz⟩, hcv⟩ : ∃ c, c = cvAt (b.drop p) := ⟨_, rfl⟩
              rw [← hcv] at FO HOK HV
              have FD : Hid (∀ W, Calls Tryd.prog 28 #[.agg (cvC ⟨ck, cs, cf, ct, cz⟩).toArray] W fun e w' => e = .returned (.tuple #[if cvMay ⟨ck, cs, cf, ct, cz⟩ = true then dmV ⟨ck, cs, cf, ct, cz⟩ else .nilIface, .bool (cvMay ⟨ck, cs, cf, ct, cz⟩)]) ∧ Below W.heap.size W w') := fun W => dem_any ⟨ck, cs, cf, ct, cz⟩ HOK.out W
              obtain ⟨v, hv⟩ : ∃ v, v = cvMay ⟨ck, cs, cf, ct, cz⟩ := ⟨_, rfl⟩
              obtain ⟨x1, x2⟩ := HV.out v hv
              rw [← hv] at FD
              have FO : Calls Tryd.prog 27 #[.slice (some ⟨B, off + p, none⟩) 26 (cap - p)] wr fun e w' => e = .returned (.agg #[.int .i64 ck, .int .i64 cs, .int .i64 cf, .int .i64 ct, .int .u64 (cz : Int)]) ∧ Below wr.heap.size wr w' := FO
              have CO : Hid (∀ u ∈ [Value.int .i64 ck, .int .i64 cs, .int .i64 cf, .int .i64 ct, .int .u64 (cz : Int)], u.oneCell' = true) := cvC_one ⟨ck, cs, cf, ct, cz⟩
              clear hk6 hk7 hsh h26 HV hv hcv HGE
              generalize dmV ⟨ck, cs, cf, ct, cz⟩ = dv at *
              have FD : Hid (∀ W, Calls Tryd.prog 28 #[.agg #[.int .i64 ck, .int .i64 cs, .int .i64 cf, .int .i64 ct, .int .u64 (cz : Int)]] W fun e w' => e = .returned (.tuple #[if v = true then dv else .nilIface, .bool v]) ∧ Below W.heap.size W w') := FD
              cases v with
              | false =>
                have HX : Hid (getR b = .error (5, p)) := x1 rfl
                clear x1 x2
                go_wp2_with (first
                  | (go_at_call 24; refine FP.mono ?_; clear FP; rintro e w4 ⟨rfl, hw4⟩; rw [hw4]; clear hw4 w4)
                  | (go_at_call 27; refine FO.mono ?_; clear FO; rintro e w5 ⟨rfl, hb5⟩; have H5 : Hid (Below wr.heap.size wr w5) := hb5; have HZ5 : Hid (Row (w5.alloc (.cells zCv.toArray 64)) w5.heap.size 64 zCv) := Row.at w5 _ _ _ _ rfl rfl; clear hb5)
                  | (have hz := HZ5; clear hz; refine wpList_store_Row rfl 64 (.tmp 10) _ rfl w5.heap.size 64 0 zCv [.int .i64 ck, .int .i64 cs, .int .i64 cf, .int .i64 ct, .int .u64 (cz : Int)] HZ5.out (Nat.le_refl _) rfl rfl (by kernel_rfl) CO.out ?_; intro w6 hr6 hs6; have R6 : Hid (Row w6 w5.heap.size 64 [.int .i64 ck, .int .i64 cs, .int .i64 cf, .int .i64 ct, .int .u64 (cz : Int)]) := row_whole hr6 (by exact Nat.le_refl _); have H6 : Hid (Below wr.heap.size wr w6) := hs6.below (H5.out.alloc H5.out.size _) H5.out.size; clear HZ5 hr6 hs6 H5)
                  | (have hz := R6; clear hz; refine wpList_load_Row rfl 64 (.tmp 10) rfl w5.heap.size 64 [.int .i64 ck, .int .i64 cs, .int .i64 cf, .int .i64 ct, .int .u64 (cz : Int)] R6.out rfl _ Tryd.underlying64 rfl (by kernel_rfl) ?_)
                  | (have hz := R6; clear hz; go_at_call 28; refine (FD.out _).mono ?_; clear FD; rintro e w9 ⟨rfl, hb9⟩; have H9 : Hid (GTk w ((b.drop 8).take (b.getD 6 0).toNat) io ic LC lo lc (List.replicate 32 0) w9) := HG.out.keep (H6.out.trans (hb9.mono H6.out.size)); clear hb9 R6 H6; obtain ⟨W7, hW7⟩ : ∃ W7, W7 = w9.alloc (.cells #[.int .i64 5, .int .i64 (p : Int)] 83) := ⟨_, rfl⟩; have R7 : Hid (Row W7 w.heap.size 36 zTk ∧ Row W7 w9.heap.size 83 [.int .i64 (5 : Int), .int .i64 (p : Int)] ∧ Below w.heap.size w W7) := (by show _ ∧ _ ∧ _; rw [hW7]; exact ⟨H9.out.res.alloc _, Row.at _ 83 [.int .i64 (5 : Int), .int .i64 (p : Int)] _ _ rfl rfl, H9.out.bel.alloc H9.out.bel.size _⟩); have HZ7 : Hid (w.heap.size + 2 ≤ w9.heap.size) := H9.out.id.2)
                  | (have hz := hW7; clear hz; refine wpList_at24 hW7 ?_; clear hW7)
                  | (have hz := R7; clear hz; refine wpList_store_Row rfl 36 (.tmp 2) _ rfl w.heap.size 36 0 zTk zTk R7.out.1 (Nat.le_refl _) rfl rfl (by kernel_rfl) (tkC_one _ _ _ _ _ _ _ _) ?_; intro w8 hr8 hs8; have q8 := row_whole hr8 (by simp); have H8 : Hid (CGetP b w (.returned (.tuple #[.agg zTk.toArray, .iface 82 (.pointer (some ⟨w9.heap.size, 0, none⟩))])) w8) := CGetP.bad (E := 5) (A := p) (hs8.below R7.out.2.2 (Nat.le_refl _)) (R7.out.2.1.but hs8 (by have := HZ7.out; omega)) HX.out; clear R7 hr8 hs8))
                rw [Exit.noGoto_ret]
                refine bodyPost_ret_by (results_rowtmp Tryd.results11 _ w8 w.heap.size 36 _ _ rfl q8 Tryd.underlying36 rfl (by kernel_rfl)) rfl ?_
                exact H8.out
              | true =>
                have HCS : Hid (csT b (p + 26) m (LC ++ [⟨ck, cs, cf, ct, cz⟩]) k7 (8 + k6)) := x2 rfl
                clear x1 x2
                have HJ : Hid (LC.length = j ∧ j ≤ 32) := by have h1 := HPP.out; have h2 := HK.out; exact ⟨h1.2.2.2, by omega⟩
                go_wp2_with (first
                  | (go_at_call 24; refine FP.mono ?_; clear FP; rintro e w4 ⟨rfl, hw4⟩; rw [hw4]; clear hw4 w4)
                  | (go_at_call 27; refine FO.mono ?_; clear FO; rintro e w5 ⟨rfl, hb5⟩; have H5 : Hid (Below wr.heap.size wr w5) := hb5; have HZ5 : Hid (Row (w5.alloc (.cells zCv.toArray 64)) w5.heap.size 64 zCv) := Row.at w5 _ _ _ _ rfl rfl; clear hb5)
                  | (have hz := HZ5; clear hz; refine wpList_store_Row rfl 64 (.tmp 10) _ rfl w5.heap.size 64 0 zCv [.int .i64 ck, .int .i64 cs, .int .i64 cf, .int .i64 ct, .int .u64 (cz : Int)] HZ5.out (Nat.le_refl _) rfl rfl (by kernel_rfl) CO.out ?_; intro w6 hr6 hs6; have R6 : Hid (Row w6 w5.heap.size 64 [.int .i64 ck, .int .i64 cs, .int .i64 cf, .int .i64 ct, .int .u64 (cz : Int)]) := row_whole hr6 (by exact Nat.le_refl _); have H6 : Hid (Below wr.heap.size wr w6) := hs6.below (H5.out.alloc H5.out.size _) H5.out.size; clear HZ5 hr6 hs6 H5)
                  | (have hz := R6; clear hz; refine wpList_load_Row rfl 64 (.tmp 10) rfl w5.heap.size 64 [.int .i64 ck, .int .i64 cs, .int .i64 cf, .int .i64 ct, .int .u64 (cz : Int)] R6.out rfl _ Tryd.underlying64 rfl (by kernel_rfl) ?_)
                  | (have hz := R6; clear hz; go_at_call 28; refine (FD.out _).mono ?_; clear FD; rintro e w9 ⟨rfl, hb9⟩; have H9 : Hid (GTk w ((b.drop 8).take (b.getD 6 0).toNat) io ic LC lo lc (List.replicate 32 0) w9) := HG.out.keep (H6.out.trans (hb9.mono H6.out.size)); have R9 : Hid (Row w9 w5.heap.size 64 [.int .i64 ck, .int .i64 cs, .int .i64 cf, .int .i64 ct, .int .u64 (cz : Int)]) := R6.out.below hb9 R6.out.lt; have cc9 : w9.cell? ⟨w.heap.size + 1, 2, none⟩ = some (.slice lo LC.length lc) := H9.out.t.cell 2 _ rfl; have H10 : Hid (∀ X, GTk w ((b.drop 8).take (b.getD 6 0).toNat) io ic LC lo lc (List.replicate 32 0) (w9.alloc X)) := (fun X => H9.out.keep ((Below.refl _ _).alloc (Nat.le_refl _) _)); clear hb9 R6 H6)
                  | (have hz := R9; clear hz; refine wpList_load_Row rfl 64 (.tmp 10) rfl w5.heap.size 64 [.int .i64 ck, .int .i64 cs, .int .i64 cf, .int .i64 ct, .int .u64 (cz : Int)] R9.out rfl _ Tryd.underlying64 rfl (by kernel_rfl) ?_; clear R9)
                  | (have hz := H10; clear hz; at_builtin; refine wpList_append_any el_tocavs rfl (.tmp 60) (.tmp 62) rfl (w.heap.size + 2) lo LC.length lc (LC.flatMap cvC) rfl (H10.out _).cav (H10.out _).id.2 (some ⟨w9.heap.size, 0, none⟩) 1 1 [.int .i64 ck, .int .i64 cs, .int .i64 cf, .int .i64 ct, .int .u64 (cz : Int)] rfl rfl (.inr ⟨w9.heap.size, 0, rfl, fun j v hv => (by rw [Nat.zero_add]; exact (Row.at w9 64 [.int .i64 ck, .int .i64 cs, .int .i64 cf, .int .i64 ct, .int .u64 (cz : Int)] _ _ rfl rfl).cell j v hv)⟩) CO.out (by simp) (by have := HJ.out; unfold maxLen; omega) (by have := HJ.out; omega) ?_; intro ao8 c8 w8 ho8 hb8 hz8 hk8; have tt8 := row_still (H10.out _).cav hk8 (H10.out _).t (by decide); have cc8 : w8.cell? ⟨w.heap.size + 1, 2, none⟩ = some (.slice lo LC.length lc) := tt8.cell 2 _ rfl; have fz8 : w8.frozen? ⟨w.heap.size + 1, 2, none⟩ = false := tt8.frozen 2; have HNX : Hid (GI w b (p + 26) (w8.setCell ⟨w.heap.size + 1, 2, none⟩ (.slice ao8 (LC.length + 1) c8))) := (by
                      have hp1 := HPP.out; have hk1 := HK.out; have hm1 := HMJ.out; have hcs := HCS.out
                      have e6 := hk1.1; have e7 := hk1.2.1
                      have hg := (H10.out _).push ⟨ck, cs, cf, ct, cz⟩ HOK.out ho8 hz8 hb8 hk8
                      rw [hm1.1, e6, e7] at hcs
                      exact .cavs (j + 1) (LC ++ [⟨ck, cs, cf, ct, cz⟩]) io ic ao8 c8 HS.out (by rw [HN.out, ← e6]; omega) (by rw [← e7]; omega) (by rw [List.length_append, hp1.2.2.2]; rfl) (by rw [← e6]; omega) (by rw [HN.out]; exact HL.out) hcs hg); clear cc9 H9 H10 ho8 hb8 hz8 hk8 tt8))
                exact ⟨⟨p + 26, HL.out, by go_num, rfl, HNX⟩, by have := HL.out; simp [intOf]; omega⟩
          · have ePR : partR k6 k7 p = (3, 32) := by unfold partR; rw [if_neg (by have := HPP.out; have := HK.out; omega), if_neg (by have := HPP.out; omega), if_pos (by have := HPP.out; omega)]
            rw [ePR] at FP
            have FP : Calls Tryd.prog 24 #[.slice (some ⟨B, off, none⟩) n cap, .int .i64 (p : Int)] wr fun e w' => e = .returned (.tuple #[.int .i64 3, .int .i64 32]) ∧ w' = wr := FP
            have HPT : Hid (p = 8 + k6 + 26 * k7) := by show _ = _; have := HPP.out; omega
            have HCO : Hid (csR b (8 + k6) k7 = .ok LC) := by rw [show k7 - j = 0 by omega] at hc; exact csT_done hc
            clear ePR hc hjk
            by_cases hsh : n < p + 32
            · have HX : Hid (getR b = .error (6, n)) := by
                have h9 := getR_tag HS.out (l := LC) (by rw [← hk6, HN.out]; have := HPP.out; omega) (by rw [← hk6, ← hk7]; exact HCO.out) (by rw [← hk6, ← hk7, HN.out]; have := HPT.out; omega)
                rw [HN.out] at h9; exact h9
              have yl : (n : Int) - (p : Int) < 32 := by omega
              clear hk6 hk7 hsh
              obtain ⟨W7, hW7⟩ : ∃ W7, W7 = wr.alloc (.cells #[.int .i64 6, .int .i64 (n : Int)] 83) := ⟨_, rfl⟩
              have R7 : Hid (Row W7 w.heap.size 36 zTk ∧ Row W7 wr.heap.size 83 [.int .i64 (6 : Int), .int .i64 (n : Int)] ∧ Below w.heap.size w W7) := by
                show _ ∧ _ ∧ _; rw [hW7]; exact ⟨HG.out.res.alloc _, Row.at _ 83 [.int .i64 (6 : Int), .int .i64 (n : Int)] _ _ rfl rfl, HG.out.bel.alloc HG.out.bel.size _⟩
              have HZ7 : Hid (w.heap.size + 2 ≤ wr.heap.size) := HG.out.id.2
              go_wp2_with (first
                | (go_at_call 24; refine FP.mono ?_; clear FP; rintro e w4 ⟨rfl, hw4⟩; rw [hw4]; clear hw4 w4)
                | (have hz := hW7; clear hz; refine wpList_at24 hW7 ?_; clear hW7)
                | (have hz := R7; clear hz; refine wpList_store_Row rfl 36 (.tmp 2) _ rfl w.heap.size 36 0 zTk zTk R7.out.1 (Nat.le_refl _) rfl rfl (by kernel_rfl) (tkC_one _ _ _ _ _ _ _ _) ?_; intro w8 hr8 hs8; have q8 := row_whole hr8 (by simp); have H8 : Hid (CGetP b w (.returned (.tuple #[.agg zTk.toArray, .iface 82 (.pointer (some ⟨wr.heap.size, 0, none⟩))])) w8) := CGetP.bad (E := 6) (A := n) (hs8.below R7.out.2.2 (Nat.le_refl _)) (R7.out.2.1.but hs8 (by have := HZ7.out; omega)) HX.out; clear R7 hr8 hs8))
              rw [Exit.noGoto_ret]
              refine bodyPost_ret_by (results_rowtmp Tryd.results11 _ w8 w.heap.size 36 _ _ rfl q8 Tryd.underlying36 rfl (by kernel_rfl)) rfl ?_
              exact H8.out
            · have yl : ¬ (n : Int) - (p : Int) < 32 := by omega
              have HL : Hid (p + 32 ≤ n) := by show _ ≤ _; omega
              have y0 : (0 : Int) ≤ (p : Int) := by omega
              have y1 : (p : Int) ≤ (p : Int) + 32 := by omega
              have y2 : (p : Int) + 32 ≤ (cap : Int) := by have := HCAP.out; omega
              have z1 : IntKind.i64.wrap ((p : Int) + 32) = (p : Int) + 32 := i64_in _ (by omega) (by have := HCAP.out; omega)
              have t1 : ((p : Int) + 32).toNat = p + 32 := by omega
              have vc : ¬ cap = p := by have := HCAP.out; omega
              have h32 : ((b.drop p).take 32).length = 32 := by rw [List.length_take, List.length_drop, HN.out]; omega
              have H32 : Hid (((b.drop p).take 32).length = 32 ∧ IsB wr (some ⟨B, off + p, none⟩) ((b.drop p).take 32)) := ⟨h32, isB_part (HIB.out wr HG.out.bel) p 32⟩
              have HNX : Hid (GI w b (p + 32) (wr.setCells (w.heap.size + 1) 3 (((b.drop p).take 32).map B8))) := by
                have hp1 := HPP.out; have hk1 := HK.out; have hp2 := HPT.out
                have e6 := hk1.1; have e7 := hk1.2.1
                have hg := HG.out.settag (tg2 := (b.drop p).take 32) (by simp) h32
                have hp3 : p = 8 + (b.getD 6 0).toNat + 26 * (b.getD 7 0).toNat := by rw [← e6, ← e7]; exact hp2
                have e9 : (b.drop p).take 32 = (b.drop (8 + (b.getD 6 0).toNat + 26 * (b.getD 7 0).toNat)).take 32 := by rw [← hp3]
                have hg2 : GTk w ((b.drop 8).take (b.getD 6 0).toNat) io ic LC lo lc ((b.drop (8 + (b.getD 6 0).toNat + 26 * (b.getD 7 0).toNat)).take 32) (wr.setCells (w.heap.size + 1) 3 (((b.drop p).take 32).map B8)) := by rw [← e9]; exact hg
                exact .done LC io ic lo lc HS.out (by rw [HN.out, ← e6]; omega) (by rw [← e6, ← e7]; exact HCO.out) (by rw [← e6, ← e7]; omega) (by rw [HN.out]; exact HL.out) hg2
              have HTL : Hid ((tkC 0 io ((b.drop 8).take (b.getD 6 0).toNat).length ic lo LC.length lc (List.replicate 32 0)).length = 35) := tkC_len (by simp)
              clear hk6 hk7 hsh h32
              generalize (b.drop p).take 32 = tg2 at *
              go_wp2_with (first
                | (go_at_call 24; refine FP.mono ?_; clear FP; rintro e w4 ⟨rfl, hw4⟩; rw [hw4]; clear hw4 w4)
                | (have hz := H32; clear hz; refine wpList_copy_tag rfl (.tmp 68) (.tmp 69) rfl (w.heap.size + 1) 36 B (off + p) (cap - p) _ rfl rfl HG.out.t HTL.out tg2 H32.out.1 H32.out.2 ?_; clear H32))
              exact ⟨⟨p + 32, HL.out, by go_num, rfl, HNX⟩, by have := HL.out; simp [intOf]; omega⟩
    · have HG : Hid (GTk w ((b.drop 8).take (b.getD 6 0).toNat) io ic LC lo lc ((b.drop (8 + (b.getD 6 0).toNat + 26 * (b.getD 7 0).toNat)).take 32) wr) := g
      have HS : Hid (scan24 b 0 8 = none) := hs
      have hn8 := (scan_k HS.out).1
      case _ =>
          obtain ⟨B, off, rfl⟩ : ∃ B off, ao = some ⟨B, off, none⟩ := by
            rcases HIB.out wr HG.out.bel with e0 | ⟨B, off, e, _⟩
            · first | (rw [e0] at hn8; simp at hn8; done) | (have h9 := HN.out; rw [e0] at h9; simp at h9; omega)
            · exact ⟨B, off, e⟩
          obtain ⟨k6, hk6⟩ : ∃ k, k = (b.getD 6 0).toNat := ⟨_, rfl⟩
          obtain ⟨k7, hk7⟩ : ∃ k, k = (b.getD 7 0).toNat := ⟨_, rfl⟩
          have HK : Hid (k6 = (b.getD 6 0).toNat ∧ k7 = (b.getD 7 0).toNat ∧ 1 ≤ k6 ∧ k6 ≤ 64 ∧ k7 ≤ 32 ∧ 8 ≤ n) := by
            have := scan_k HS.out; have := HN.out
            exact ⟨hk6, hk7, by omega, by omega, by omega, by omega⟩
          have HPP : Hid (p = 8 + k6 + 26 * k7 + 32 ∧ 8 + k6 ≤ n ∧ csR b (8 + k6) k7 = .ok LC) := ⟨by rw [hk6, hk7]; exact hp, by rw [hk6, ← HN.out]; exact hl, by rw [hk6, hk7]; exact hc⟩
          have c6 := bytes_at (HIB.out wr HG.out.bel) (Below.refl _ _) 6 (by have := HN.out; have := HK.out; omega)
          have c7 := bytes_at (HIB.out wr HG.out.bel) (Below.refl _ _) 7 (by have := HN.out; have := HK.out; omega)
          rw [← hk6] at c6
          rw [← hk7] at c7
          have FP := partAt_rest B off n cap k6 k7 p (by have := HPP.out; omega) (by have := HK.out; omega) (by have := HK.out; omega) (by have := HK.out; omega) (by have := HPN.out; have := HCAP.out; omega) wr c6 c7
          have ePR : partR k6 k7 p = (4, 0) := by unfold partR; rw [if_neg (by have := HPP.out; omega), if_neg (by have := HPP.out; omega), if_neg (by have := HPP.out; omega)]
          rw [ePR] at FP
          have FP : Calls Tryd.prog 24 #[.slice (some ⟨B, off, none⟩) n cap, .int .i64 (p : Int)] wr fun e w' => e = .returned (.tuple #[.int .i64 4, .int .i64 0]) ∧ w' = wr := FP
          have yl : ¬ (n : Int) - (p : Int) < 0 := by have := HPN.out; omega
          have y0 : (0 : Int) ≤ (p : Int) := by omega
          have y2 : (p : Int) ≤ (cap : Int) := by have := HPN.out; have := HCAP.out; omega
          have zp : IntKind.i64.wrap (p : Int) = (p : Int) := i64_in _ (by omega) (by have := HPN.out; have := HCAP.out; omega)
          clear hs hl hc hp hb g HI c6 c7 hn8 ePR
          by_cases hrs : p < n
          · have HX : Hid (getR b = .error (7, p)) := by
              have h9 := getR_rest HS.out (l := LC) (by rw [← hk6, HN.out]; have := HPP.out; omega) (by rw [← hk6, ← hk7]; exact HPP.out.2.2) (by rw [← hk6, ← hk7, HN.out]; have := HPP.out; omega)
              rw [← hk6, ← hk7, ← HPP.out.1] at h9; exact h9
            have yr : (p : Int) < (n : Int) := by omega
            have vc : ¬ cap = p := by have := HCAP.out; omega
            clear hk6 hk7 hrs
            obtain ⟨W7, hW7⟩ : ∃ W7, W7 = wr.alloc (.cells #[.int .i64 7, .int .i64 (p : Int)] 83) := ⟨_, rfl⟩
            have R7 : Hid (Row W7 w.heap.size 36 zTk ∧ Row W7 wr.heap.size 83 [.int .i64 (7 : Int), .int .i64 (p : Int)] ∧ Below w.heap.size w W7) := by
              show _ ∧ _ ∧ _; rw [hW7]; exact ⟨HG.out.res.alloc _, Row.at _ 83 [.int .i64 (7 : Int), .int .i64 (p : Int)] _ _ rfl rfl, HG.out.bel.alloc HG.out.bel.size _⟩
            have HZ7 : Hid (w.heap.size + 2 ≤ wr.heap.size) := HG.out.id.2
            go_wp2_with (first
              | (go_at_call 24; refine FP.mono ?_; clear FP; rintro e w4 ⟨rfl, hw4⟩; rw [hw4]; clear hw4 w4)
              | (have hz := hW7; clear hz; refine wpList_at24 hW7 ?_; clear hW7)
              | (have hz := R7; clear hz; refine wpList_store_Row rfl 36 (.tmp 2) _ rfl w.heap.size 36 0 zTk zTk R7.out.1 (Nat.le_refl _) rfl rfl (by kernel_rfl) (tkC_one _ _ _ _ _ _ _ _) ?_; intro w8 hr8 hs8; have q8 := row_whole hr8 (by simp); have H8 : Hid (CGetP b w (.returned (.tuple #[.agg zTk.toArray, .iface 82 (.pointer (some ⟨wr.heap.size, 0, none⟩))])) w8) := CGetP.bad (E := 7) (A := p) (hs8.below R7.out.2.2 (Nat.le_refl _)) (R7.out.2.1.but hs8 (by have := HZ7.out; omega)) HX.out; clear R7 hr8 hs8))
            rw [Exit.noGoto_ret]
            refine bodyPost_ret_by (results_rowtmp Tryd.results11 _ w8 w.heap.size 36 _ _ rfl q8 Tryd.underlying36 rfl (by kernel_rfl)) rfl ?_
            exact H8.out
          · have yr : ¬ (p : Int) < (n : Int) := by omega
            have HPE : Hid (p = n) := by show _ = _; have := HPN.out; omega
            have cc5 := bytes_at (HIB.out wr HG.out.bel) (Below.refl _ _) 5 (by have := HN.out; have := HK.out; omega)
            have ct0 : wr.cell? ⟨w.heap.size + 1, 0, none⟩ = some (.int .i64 0) := HG.out.t.cell 0 _ rfl
            have fz0 : wr.frozen? ⟨w.heap.size + 1, 0, none⟩ = false := HG.out.t.frozen 0
            have y5 : (5 : Int) < (n : Int) := by have := HK.out; omega
            have HB5 : Hid ((b.getD 5 0).toNat < 256) := (b.getD 5 0).isLt
            have HGR : Hid (getR b = .ok ⟨((b.getD 5 0).toNat : Int), (b.drop 8).take (b.getD 6 0).toNat, LC, (b.drop (8 + (b.getD 6 0).toNat + 26 * (b.getD 7 0).toNat)).take 32⟩) := by
              have h9 := getR_ok HS.out (l := LC) (by rw [← hk6, HN.out]; have := HPP.out; omega) (by rw [← hk6, ← hk7]; exact HPP.out.2.2) (by rw [← hk6, ← hk7, HN.out]; have := HPP.out; have := HPE.out; omega)
              have e32 : (b.drop (8 + (b.getD 6 0).toNat + 26 * (b.getD 7 0).toNat)).take 32 = b.drop (8 + (b.getD 6 0).toNat + 26 * (b.getD 7 0).toNat) := List.take_of_length_le (by rw [List.length_drop, ← hk6, ← hk7, HN.out]; have := HPP.out; have := HPE.out; omega)
              show _ = _
              rw [e32]
              exact h9
            have HT32 : Hid (((b.drop (8 + (b.getD 6 0).toNat + 26 * (b.getD 7 0).toNat)).take 32).length = 32) := by
              show _ = _
              rw [List.length_take, List.length_drop, ← hk6, ← hk7, HN.out]; have := HPP.out; have := HPE.out; omega
            have HIDB : Hid (((b.drop 8).take (b.getD 6 0).toNat).length ≤ 140737488351232) := by
              show _ ≤ _
              rw [List.length_take]; have := HK.out; omega
            clear hk6 hk7 hrs
            have HPO : Hid (p = n) := HPE.out
            clear HPE
            generalize (b.getD 5 0).toNat = k5 at *
            generalize (b.drop (8 + (b.getD 6 0).toNat + 26 * (b.getD 7 0).toNat)).take 32 = tg2 at *
            generalize (b.drop 8).take (b.getD 6 0).toNat = ID at *
            have z5 : IntKind.i64.wrap (k5 : Int) = (k5 : Int) := i64_in _ (by omega) (by have := HB5.out; omega)
            obtain ⟨W5, hW5⟩ : ∃ W5, W5 = wr.setCell ⟨w.heap.size + 1, 0, none⟩ (.int .i64 (k5 : Int)) := ⟨_, rfl⟩
            have R5 : Hid (Row W5 (w.heap.size + 1) 36 (tkC (k5 : Int) io ID.length ic lo LC.length lc tg2) ∧ Row W5 w.heap.size 36 zTk ∧ Below w.heap.size w W5 ∧ Own (w.heap.size + 2) W5 (.slice io ID.length ic) ID ∧ W5.ownsRow (w.heap.size + 2) 64 5 (.slice lo LC.length lc) LC.length (LC.flatMap cvC)) := by
              have hs := SameBut.setCell (w.heap.size + 1) 0 (.int .i64 (k5 : Int)) wr
              rw [← hW5] at hs
              refine ⟨?_, HG.out.res.but hs (by omega), hs.below HG.out.bel (by omega), own_butr HG.out.id hs HG.out.t (by decide), owB_but HG.out.cav hs HG.out.t (by decide)⟩
              have := HG.out.t.set 0 (.int .i64 (k5 : Int))
              rw [← hW5] at this
              exact this
            have HT35 : Hid ((tkC (k5 : Int) io ID.length ic lo LC.length lc tg2).length = 35) := tkC_len HT32.out
            have HEN : Hid (∀ w8, SameBut w.heap.size W5 w8 → CGetP b w (.returned (.tuple #[.agg (tkC (k5 : Int) io ID.length ic lo LC.length lc tg2).toArray, .nilIface])) w8) := fun w8 hs8 => by
              have h5 := R5.out
              refine ⟨hs8.below h5.2.2.1 (Nat.le_refl _), fun E A h => ?_, fun x hx => ?_⟩
              · rw [HGR.out] at h; cases h
              · rw [HGR.out] at hx
                injection hx with hx
                subst hx
                exact ⟨io, ic, lo, lc, rfl, ⟨own_le (own_butr h5.2.2.2.1 hs8 h5.2.1 (by decide)) (by omega), owB_low (owB_but h5.2.2.2.2 hs8 h5.2.1 (by decide)) (by omega), HT32.out, HG.out.ok, HIDB.out⟩⟩
            by_cases vc : cap = p
            · have HVC : Hid (cap = p) := vc
              clear HVC
              subst vc
              go_wp2_with (first
                | (go_at_call 24; refine FP.mono ?_; clear FP; rintro e w4 ⟨rfl, hw4⟩; rw [hw4]; clear hw4 w4)
                | (have hz := hW5; clear hz; refine wpList_at24 hW5 ?_; clear hW5)
                | (have hz := R5; clear hz; refine wpList_load_Row rfl 36 (.tmp 4) rfl (w.heap.size + 1) 36 (tkC (k5 : Int) io ID.length ic lo LC.length lc tg2) R5.out.1 rfl _ Tryd.underlying36 rfl (by rw [HT35.out]; kernel_rfl) ?_)
                | (have hz := R5; clear hz; refine wpList_store_Row rfl 36 (.tmp 2) _ rfl w.heap.size 36 0 zTk (tkC (k5 : Int) io ID.length ic lo LC.length lc tg2) R5.out.2.1 (by rw [HT35.out]; exact Nat.le_refl _) rfl rfl (by rw [HT35.out]; kernel_rfl) (tkC_one _ _ _ _ _ _ _ _) ?_; intro w8 hr8 hs8; have q8 := row_whole hr8 (by rw [HT35.out]; exact Nat.le_refl _); have H8 : Hid (CGetP b w (.returned (.tuple #[.agg (tkC (k5 : Int) io ID.length ic lo LC.length lc tg2).toArray, .nilIface])) w8) := HEN.out w8 hs8; clear R5 hr8 hs8))
              rw [Exit.noGoto_ret]
              refine bodyPost_ret_by (results_rowtmp Tryd.results11 _ w8 w.heap.size 36 _ _ rfl q8 Tryd.underlying36 rfl (by rw [HT35.out]; kernel_rfl)) rfl ?_
              exact H8.out
            · skip
              go_wp2_with (first
                | (go_at_call 24; refine FP.mono ?_; clear FP; rintro e w4 ⟨rfl, hw4⟩; rw [hw4]; clear hw4 w4)
                | (have hz := hW5; clear hz; refine wpList_at24 hW5 ?_; clear hW5)
                | (have hz := R5; clear hz; refine wpList_load_Row rfl 36 (.tmp 4) rfl (w.heap.size + 1) 36 (tkC (k5 : Int) io ID.length ic lo LC.length lc tg2) R5.out.1 rfl _ Tryd.underlying36 rfl (by rw [HT35.out]; kernel_rfl) ?_)
                | (have hz := R5; clear hz; refine wpList_store_Row rfl 36 (.tmp 2) _ rfl w.heap.size 36 0 zTk (tkC (k5 : Int) io ID.length ic lo LC.length lc tg2) R5.out.2.1 (by rw [HT35.out]; exact Nat.le_refl _) rfl rfl (by rw [HT35.out]; kernel_rfl) (tkC_one _ _ _ _ _ _ _ _) ?_; intro w8 hr8 hs8; have q8 := row_whole hr8 (by rw [HT35.out]; exact Nat.le_refl _); have H8 : Hid (CGetP b w (.returned (.tuple #[.agg (tkC (k5 : Int) io ID.length ic lo LC.length lc tg2).toArray, .nilIface])) w8) := HEN.out w8 hs8; clear R5 hr8 hs8))
              rw [Exit.noGoto_ret]
              refine bodyPost_ret_by (results_rowtmp Tryd.results11 _ w8 w.heap.size 36 _ _ rfl q8 Tryd.underlying36 rfl (by rw [HT35.out]; kernel_rfl)) rfl ?_
              exact H8.out
end Go.Proofs.YtjooabgjkjnhhaaDoor
