
import Derived.Test.YtpcgkjngpdplmaaGreatDoorK12Add
import Derived.Test.YtpcgkjngpdplmaaGreatDoorMEq
/-! THE CODE'S CONTRACTS: Numbers, Sign, Check, New. -/
namespace Go.Proofs.YtpcgkjngpdplmaaGreatDoor
open Go.RowKit
set_option linter.unusedVariables false

set_option maxHeartbeats 1000000 in
set_option maxRecDepth 100000 in
theorem csign_any {N M : Nat} {w : World} {g b0 : Nat} {vs : List Value} {l : Secs} (h : KgO N M w g b0 vs l) (hb256 : ∀ i, i < l.length → (l.getD i (0, [])).2.length ≤ 256) (key : Int)
    (bo : Option Addr) (nb cb : Nat) (b : List By) (hnb : b.length = nb) (hb : IsB w bo b) (hcb : nb ≤ cb) (hbk : bo = none → cb = 0) (hmb : nb ≤ 140737488353000) :
    Calls Tryz.prog 100 #[.pointer (some ⟨g, 0, none⟩), .int .i64 key, .slice bo nb cb] w fun e w' => e = .returned (.tuple #[.agg ((sgn l key b).map B8).toArray, .int .i64 (sgnE l key)]) ∧ Below w.heap.size w w' := by
  have bA : ∀ o1, Below w.heap.size w (w.alloc o1) := fun o1 => (Below.refl _ _).alloc (Nat.le_refl _) _
  have HL := sgn_len l key b
  have HB : Hid (b.length = nb) := hnb
  have h0 := fun o1 => (h.below (bA o1)).row.cell 0 _ rfl
  clear hnb
  have r0 : Row (w.alloc (.cells ((List.replicate 32 (0 : By)).map B8).toArray 37)) w.heap.size 37 ((List.replicate 32 (0 : By)).map B8) := Row.at w _ _ _ _ rfl rfl
  have bw := bA (.cells ((List.replicate 32 (0 : By)).map B8).toArray 37)
  cases hf : fnd l key with
  | none =>
    have HS : Hid (sgn l key b = List.replicate 32 0 ∧ sgnE l key = 13) := ⟨by unfold sgn; rw [hf], by unfold sgnE; rw [hf]⟩
    have q := fun o1 => look_none kmT (h.below (bA o1)).mp key (kvs_none key l vs h.len (by rw [hf]; rfl))
    clear h hf hb256 hb bA
    go_enter Tryz.func100, Tryz.ntmps100
    go_wp2_with (refine wpList_store_Row rfl 37 _ _ rfl w.heap.size 37 0 ((List.replicate 32 (0 : By)).map B8) ((List.replicate 32 (0 : By)).map B8) r0 (by simp) rfl rfl (by kernel_rfl) (B8_one _) ?_; intro w9 hr9 hs9)
    have hr := row_whole hr9 (by simp)
    refine bodyPost_ret_by (results_rowtmp Tryz.results100 _ w9 w.heap.size 37 _ _ rfl hr Tryz.underlying37 rfl (by kernel_rfl)) rfl ⟨?_, hs9.below bw (Nat.le_refl _)⟩
    rw [HS.out.1, HS.out.2]; rfl
  | some i =>
    have hi := fnd_lt hf
    have HS : Hid (sgn l key b = tag (l.getD i (0, [])).2 b ∧ sgnE l key = 0) := ⟨by unfold sgn; rw [hf], by unfold sgnE; rw [hf]⟩
    obtain ⟨kq, kc, ev, hkb, hkc, _, hkM⟩ := h.bytes i hi
    have q := fun o1 => look_some kmT (h.below (bA o1)).mp key (vs.getD i undef) (by rw [kvs_find key l vs h.len, hf]; rfl)
    rw [ev] at q
    have hk256 := hb256 i hi
    generalize (l.getD i (0, [])).2 = K at hkb hkc hk256 HS q
    have MM : Hid (∀ o1, Calls Tryz.prog 111 #[.slice (some ⟨kq, 0, none⟩) K.length kc, .slice bo nb cb] (w.alloc o1) fun e w' => e = .returned (.agg ((tag K b).map B8).toArray) ∧ Below w.heap.size w w' ∧ (∀ k, k < (w.alloc o1).heap.size → w'.heap[k]? = (w.alloc o1).heap[k]?)) := fun o1 =>
      (mac_any (some ⟨kq, 0, none⟩) bo K.length kc nb cb K b rfl HB.out (w.alloc o1) (hkb.below (bA o1) (Nat.le_refl _)) (hb.below (bA o1) (Nat.le_refl _)) hkc hcb (by omega) hmb).mono fun e w' ⟨h1, h2⟩ => ⟨h1, (bA o1).trans (h2.mono (bA o1).size), h2.block⟩
    have HT : Hid ((tag K b).length = 32) := sha_len _
    generalize tag K b = TG at MM HS HT
    generalize K.length = kn at *
    clear h hf hb256 hb hkb ev bA
    go_enter Tryz.func100, Tryz.ntmps100
    go_wp2_with fail
    refine (MM.out _).mono ?_
    rintro e w2 ⟨rfl, bw2, hb2⟩
    have r2 : Row w2 w.heap.size 37 ((List.replicate 32 (0 : By)).map B8) := (hb2 w.heap.size (by simp)).trans r0
    clear MM q h0 hb2
    go_wp2_with (refine wpList_store_Row rfl 37 _ _ rfl w.heap.size 37 0 ((List.replicate 32 (0 : By)).map B8) (TG.map B8) r2 (by simp [HT.out]) rfl rfl (by rw [List.length_map, HT.out]; kernel_rfl) (B8_one _) ?_; intro w9 hr9 hs9)
    have hr := row_whole hr9 (by simp [HT.out])
    refine bodyPost_ret_by (results_rowtmp Tryz.results100 _ w9 w.heap.size 37 _ _ rfl hr Tryz.underlying37 rfl (by rw [List.length_map, HT.out]; kernel_rfl)) rfl ⟨?_, hs9.below bw2 (Nat.le_refl _)⟩
    rw [HS.out.1, HS.out.2]; rfl

set_option maxHeartbeats 1000000 in
set_option maxRecDepth 100000 in
theorem ccheck_any {N M : Nat} {w : World} {g b0 : Nat} {vs : List Value} {l : Secs} (h : KgO N M w g b0 vs l) (hb256 : ∀ i, i < l.length → (l.getD i (0, [])).2.length ≤ 256) (key : Int)
    (bo : Option Addr) (nb cb : Nat) (b : List By) (hnb : b.length = nb) (hb : IsB w bo b) (hcb : nb ≤ cb) (hbk : bo = none → cb = 0) (hmb : nb ≤ 140737488353000) (t : List By) (ht : t.length = 32) :
    Calls Tryz.prog 88 #[.pointer (some ⟨g, 0, none⟩), .int .i64 key, .slice bo nb cb, .agg (t.map B8).toArray] w fun e w' => e = .returned (.tuple #[.bool (decide (sgnE l key = 0 ∧ sgn l key b = t)), .int .i64 (sgnE l key)]) ∧ Below w.heap.size w w' := by
  have b0' : ∀ o1, Below w.heap.size w (w.alloc o1) := fun o1 => (Below.refl _ _).alloc (Nat.le_refl _) _
  have H : Hid (∀ o1, Calls Tryz.prog 100 #[.pointer (some ⟨g, 0, none⟩), .int .i64 key, .slice bo nb cb] (w.alloc o1) fun e w' => e = .returned (.tuple #[.agg ((sgn l key b).map B8).toArray, .int .i64 (sgnE l key)]) ∧ Below (w.alloc o1).heap.size (w.alloc o1) w') :=
    fun o1 => csign_any (h.below (b0' o1)) hb256 key bo nb cb b hnb (hb.below (b0' o1) (Nat.le_refl _)) hcb hbk hmb
  have r0 : Row (w.alloc (.cells (t.map B8).toArray 37)) w.heap.size 37 (t.map B8) := Row.at w _ _ _ _ rfl rfl
  have HL : Hid ((sgn l key b).length = 32) := sgn_len l key b
  have HT : Hid (t.length = 32) := ht
  have HE : Hid (sgnE l key = 0 ∨ sgnE l key = 13) := by
    show _ ∨ _
    unfold sgnE; split
    · exact .inl rfl
    · exact .inr rfl
  generalize sgn l key b = SG at *
  generalize sgnE l key = SE at *
  clear h hb hb256 ht hnb
  go_enter Tryz.func88, Tryz.ntmps88
  go_wp2_with fail
  refine (H.out _).mono ?_
  rintro e w1 ⟨rfl, hb1⟩
  replace r0 := r0.below hb1 (by simp)
  have bw : Below w.heap.size w w1 := (b0' _).trans (hb1.mono (by simp))
  clear hb1 b0' H
  have hsz : w.heap.size < w1.heap.size := r0.lt
  have l1 : Hid ((SG.map B8).length = 32) := by show _ = _; rw [List.length_map, HL.out]
  have l2 : Hid ((t.map B8).length = 32) := by show _ = _; rw [List.length_map, HT.out]
  rcases HE.out with rfl | rfl
  · clear HE
    go_wp2_with (refine wpList_store_Row rfl 37 _ _ rfl w1.heap.size 37 0 ((List.replicate 32 (0 : By)).map B8) (SG.map B8) (Row.at w1 _ _ _ _ rfl rfl) (by simp [HL.out]) rfl rfl (by rw [List.length_map, HL.out]; kernel_rfl) (B8_one _) ?_; intro w2 hr2 hs2; have r2 := row_whole hr2 (by simp [HL.out]); have r3 : Row w2 w.heap.size 37 (t.map B8) := (r0.alloc _).but hs2 (by omega); have bw2 : Below w.heap.size w w2 := hs2.below (bw.alloc (by omega) _) (by omega); clear hr2 hs2)
    have EQ : Hid (∀ d, Calls Tryz.prog 101 #[.slice (some ⟨w1.heap.size, 0, none⟩) 32 32, .slice (some ⟨w.heap.size, 0, none⟩) 32 32] (w2.drewN d) fun e w' => e = .returned (.bool (decide (SG = t))) ∧ w' = w2.drewN d) := fun d => equal_any _ _ 32 32 32 32 SG t HL.out HT.out (w2.drewN d) (row_isb r2) (row_isb r3) (by omega) (by omega)
    have HBW : Hid (Below w.heap.size w w2) := bw2
    clear bw2 bw r0 r2 r3
    go_quiet (first | (go_at_call 101; exact Calls.quiet_of_same (EQ.out _)))
    go_wp2
    go_ret2
    refine ⟨by simp, ?_⟩
    exact Below_dr HBW.out ⟨_, rfl⟩
  · clear HE
    go_wp2_with (refine wpList_store_Row rfl 37 _ _ rfl w1.heap.size 37 0 ((List.replicate 32 (0 : By)).map B8) (SG.map B8) (Row.at w1 _ _ _ _ rfl rfl) (by simp [HL.out]) rfl rfl (by rw [List.length_map, HL.out]; kernel_rfl) (B8_one _) ?_; intro w2 hr2 hs2; have r2 := row_whole hr2 (by simp [HL.out]); have r3 : Row w2 w.heap.size 37 (t.map B8) := (r0.alloc _).but hs2 (by omega); have bw2 : Below w.heap.size w w2 := hs2.below (bw.alloc (by omega) _) (by omega); clear hr2 hs2)
    go_ret2
    exact ⟨by simp, bw2⟩

/-- A ring of the first secrets, while a New goes on. -/
def KgS (N : Nat) (w wr : World) (g b : Nat) (l : Secs) : Prop := (∃ vs, KgC N wr g b vs l) ∧ Below N w wr

set_option maxHeartbeats 2000000 in
set_option maxRecDepth 100000 in
theorem cnew_any (w : World) (ao : Option Addr) (n cap B off : Nat) (vs : List Value) (l : Secs) (hn : l.length = n) (hao : 0 < n → ao = some ⟨B, off, none⟩) (hin : SecIn w B off vs l) :
    Calls Tryz.prog 13 #[.slice ao n cap] w (CNewPost l w) := by
  by_cases h64 : 64 < n
  · have HE : Hid (newE l = some (3, 64)) := newE_many (by omega)
    have i1 : (64 : Int) < (n : Int) := by omega
    clear hin hao
    go_enter Tryz.func13, Tryz.ntmps13
    go_wp2
    go_ret3
    exact ⟨Below.refl _ _, .inl ⟨3, 64, HE.out, rfl⟩⟩
  · have i1 : ¬ (64 : Int) < (n : Int) := by omega
    have HL : Hid (l.length ≤ 64) := (by omega : l.length ≤ 64)
    have HN : Hid (l.length = n) := hn
    have r0 : Hid (KgS w.heap.size w ((w.alloc (.map #[] 0)).alloc (.cells #[.map (some w.heap.size)] 85)) (w.heap.size + 1) w.heap.size (l.take 0)) := ⟨⟨[], KgC.new _ w (Nat.le_refl _)⟩, ((Below.refl _ _).alloc (Nat.le_refl _) _).alloc (by simp) _⟩
    have hmm := @run_makeMap Tryz.prog
    clear h64 hn
    go_enter Tryz.func13, Tryz.ntmps13
    go_wp2
    clear hmm
    go_loopw [17] (fun iv wr => ∃ k : Nat, k ≤ n ∧ iv = .int .i64 k ∧ Hid (∀ j, j < k → secE l j = none) ∧ Hid (KgS w.heap.size w wr (w.heap.size + 1) w.heap.size (l.take k))) (fun iv _ => n - (intOf iv).toNat)
    case atStart => exact ⟨0, by omega, rfl, fun _ hi => absurd hi (by omega), r0⟩
    case round =>
      clear r0
      obtain ⟨k, hk, rfl, HJ, HR⟩ := hrel
      by_cases hlt : k < n
      · obtain rfl := hao (by omega)
        have y0 : (0 : Int) ≤ (k : Int) := by omega
        have y1 : (k : Int) < (n : Int) := by omega
        have hkl : k < l.length := by rw [HN.out]; exact hlt
        have hsc := hin.bytes k hkl
        obtain ⟨bo, bc, e0, hbb, hbc, hbn⟩ := hsc
        have HIN := hin.key k hkl
        have HIS := hin.sl k hkl
        rw [e0] at HIS
        have hB : B < w.heap.size := cell_lt HIN
        have hrg : wr.rangeAt B (off + k * 2) [.int .i64 (l.getD k (0, [])).1, .slice bo (l.getD k (0, [])).2.length bc] := by
          intro q v hv
          match q, hv with
          | 0, hv => injection hv with hv; subst hv; exact (HR.out.2.cell hB).trans HIN
          | 1, hv => injection hv with hv; subst hv; exact (HR.out.2.cell hB).trans HIS
        have HB : Hid (∀ W, Below w.heap.size w W → IsB W bo (l.getD k (0, [])).2) := fun W h => hbb.below h (Nat.le_refl _)
        have HS : Hid (secE l k = addE (l.take k) (l.getD k (0, [])).1 (l.getD k (0, [])).2) := rfl
        have HP : Hid (l.take (k + 1) = l.take k ++ [((l.getD k (0, [])).1, (l.getD k (0, [])).2)]) := take_push l k hkl
        have HE : Hid (∀ e, secE l k = some e → newE l = some (e, k)) := fun e he => newE_at HL.out k hkl HJ.out e he
        clear hin hbb hbc hbn e0 HIN HIS hB hkl hao
        generalize (l.getD k (0, [])).1 = kk at *
        generalize (l.getD k (0, [])).2 = bs at *
        generalize hG : wr.heap.size = S at *
        have hNS : w.heap.size ≤ S := by rw [← hG]; exact HR.out.2.size
        have ST : Hid (∀ w4, Below S wr w4 → Calls Tryz.prog 23 #[.pointer (some ⟨w.heap.size + 1, 0, none⟩), .agg #[.int .i64 kk, .slice bo bs.length bc]] w4 (CAddPost w.heap.size (w.heap.size + 1) w.heap.size (l.take k) kk bs w4) ∧ Below w.heap.size w w4) := fun w4 b4 => by
          obtain ⟨⟨rv, hrv⟩, hbw⟩ := HR.out
          have b5 := hbw.trans (b4.mono hNS)
          exact ⟨cadd_any (hrv.keep (by rw [hG]; exact b4)) b5.size kk bo bc bs (HB.out _ b5), b5⟩
        go_wp2_with (first
          | (refine wpList_load_mid rfl 79 (.tmp 20) rfl B (off + k * 2) rfl [.int .i64 kk, .slice bo bs.length bc] _ hrg Tryz.underlying79 rfl (by kernel_rfl) ?_)
          | (refine wpList_store_Row rfl 79 _ _ rfl S 79 0 [.int .i64 0, .slice none 0 0] [.int .i64 kk, .slice bo bs.length bc] (Row.at wr _ _ _ _ hG.symm rfl) (by simp) rfl rfl (by kernel_rfl) (by intro u hu; simp at hu; rcases hu with rfl | rfl <;> rfl) ?_; intro w4 hr4 hs4; have r4 := row_whole hr4 (by simp); have b4 : Hid (Below S wr w4) := hs4.below ((Below.refl _ _).alloc (by omega) _) (Nat.le_refl _); have SA := ST.out w4 b4.out; clear hr4 hs4; have c0 := r4.cell 0 _ rfl; have c1 := r4.cell 1 _ rfl))
        refine SA.1.mono ?_
        have HBW : Hid (Below w.heap.size w w4) := SA.2
        clear SA r4 b4 ST hrg HR HB c0 c1
        rintro e w5 ⟨hb5, ⟨er, hne, hse, rfl⟩ | ⟨hse, rfl, vs5, hk5⟩⟩
        · dsimp only
          have HE2 : Hid (newE l = some (er, k)) := HE.out er (HS.out.trans hse)
          have HBX : Hid (Below w.heap.size w w5) := HBW.out.trans hb5
          clear hse hb5 HS HE HJ
          go_wp2
          go_ret3
          exact ⟨HBX.out, .inl ⟨er, k, HE2.out, rfl⟩⟩
        · dsimp only
          have HSN : Hid (∀ j, j < k + 1 → secE l j = none) := by
            intro j hj
            rcases Nat.lt_or_ge j k with h1 | h1
            · exact HJ.out j h1
            · obtain rfl : j = k := by omega
              exact HS.out.trans hse
          have HR2 : Hid (KgS w.heap.size w w5 (w.heap.size + 1) w.heap.size (l.take (k + 1))) := ⟨⟨vs5, by rw [HP.out]; exact hk5⟩, HBW.out.trans hb5⟩
          clear hse hb5 HS HE HJ hk5 HP
          go_wp2
          exact ⟨⟨k + 1, by omega, by go_num, HSN, HR2⟩, by simp [intOf]; omega⟩
      · obtain rfl : k = n := by omega
        have y1 : ¬ ((k : Nat) : Int) < (k : Int) := by omega
        have HE : Hid (newE l = none) := newE_ok HL.out (by rw [HN.out]; exact HJ.out)
        have HT : Hid (l.take k = l) := List.take_of_length_le (by rw [HN.out]; exact Nat.le_refl _)
        clear hin hao
        go_wp2
        go_ret3
        obtain ⟨⟨rv, hro⟩, hbw⟩ := HR.out
        rw [HT.out] at hro
        exact ⟨hbw, .inr ⟨HE.out, _, _, rv, rfl, hro.to⟩⟩
end Go.Proofs.YtpcgkjngpdplmaaGreatDoor
