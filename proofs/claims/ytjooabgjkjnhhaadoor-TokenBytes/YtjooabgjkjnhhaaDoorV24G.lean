
import Derived.Test.YtjooabgjkjnhhaaDoorV24F
import Derived.Test.YtjooabgjkjnhhaaDoorV24B
/-! The code's token: what a token's caveats ask. -/
namespace Go.Proofs.YtjooabgjkjnhhaaDoor
open Go.RowKit
set_option linter.unusedVariables false
set_option linter.unusedSimpArgs false
set_option maxRecDepth 100000

theorem el_dms : ElT 65 69 1 16 .nilIface := ⟨Tryd.underlying65, by kernel_rfl, rfl, by omega⟩
theorem dmV_one (c : Cv) : (dmV c).oneCell' = true := by
  unfold dmV
  split
  · rfl
  · split
    · rfl
    · split
      · rfl
      · split <;> rfl
theorem dmV_if (c : Cv) : ∃ ti vi, dmV c = .iface ti vi := by
  unfold dmV
  split
  · exact ⟨_, _, rfl⟩
  · split
    · exact ⟨_, _, rfl⟩
    · split
      · exact ⟨_, _, rfl⟩
      · split <;> exact ⟨_, _, rfl⟩
/-- Between two caveats of demandsOf. -/
structure DW (W1 : World) (l : List Cv) (n : Nat) (lo : Option Addr) (lc : Nat) (W : World) : Prop where
  bel : Below W1.heap.size W1 W
  own : W.ownsRow W1.heap.size 69 1 (.slice lo n lc) n (l.map dmV)
  may : ∀ c ∈ l, cvMay c = true
def DemsP (t : Tk) (w : World) (e : Ending) (w' : World) : Prop :=
  Below w.heap.size w w' ∧ if tkMay t = true then ∃ lo lc, e = .returned (.tuple #[.slice lo t.cs.length lc, .bool true]) ∧ w'.ownsRow w.heap.size 69 1 (.slice lo t.cs.length lc) t.cs.length (t.cs.map dmV) else e = .returned (.tuple #[.slice none 0 0, .bool false])
set_option maxHeartbeats 2000000 in
theorem dems_any (t : Tk) (io : Option Addr) (ic : Nat) (lo : Option Addr) (lc : Nat) (w : World) (h : TkV w t io ic lo lc) :
    Calls Tryd.prog 19 #[.agg (tkCells t io ic lo lc).toArray] w (DemsP t w) := by
  obtain ⟨key, id, l, tag⟩ := t
  obtain ⟨T, hT⟩ : ∃ T, T = tkCells ⟨key, id, l, tag⟩ io ic lo lc := ⟨_, rfl⟩
  have t0 : T[0]? = some (.int .i64 key) := by rw [hT]; rfl
  have t1 : T[1]? = some (.slice io id.length ic) := by rw [hT]; rfl
  have t2 : T[2]? = some (.slice lo l.length lc) := by rw [hT]; rfl
  rw [← hT]
  obtain ⟨W1, hW1⟩ : ∃ W1, W1 = w.alloc (.cells T.toArray 36) := ⟨_, rfl⟩
  have r1 : Row W1 w.heap.size 36 T := by rw [hW1]; exact Row.at w _ _ _ _ rfl rfl
  have b1 : Below w.heap.size w W1 := by rw [hW1]; exact (Below.refl _ _).alloc (Nat.le_refl _) _
  have c0 := r1.cell 0 _ t0
  have c1 := r1.cell 1 _ t1
  have c2 := r1.cell 2 _ t2
  have HB : Hid (Below w.heap.size w W1) := b1
  have HL : Hid (∀ W, Below W1.heap.size W1 W → CvsIn W lo l) := fun W hh => h.cs.keep (b1.trans (hh.mono b1.size))
  have HZ : Hid (∀ c ∈ l, c.ok) := h.ok
  have HE : Hid (tkMay ⟨key, id, l, tag⟩ = false → ∀ W, Below w.heap.size w W → DemsP ⟨key, id, l, tag⟩ w (.returned (.tuple #[.slice none 0 0, .bool false])) W) := fun h1 W h2 => ⟨h2, by rw [if_neg (by rw [h1]; simp)]⟩
  obtain ⟨n, hn⟩ : ∃ n, id.length = n := ⟨_, rfl⟩
  have HN : Hid (id.length = n) := hn
  rw [hn] at c1
  obtain ⟨q, hq⟩ : ∃ q, q = decide (1 ≤ n ∧ n ≤ 64) := ⟨_, rfl⟩
  have HQ : Hid (q = decide (1 ≤ n ∧ n ≤ 64)) := hq
  have FI : Hid (∀ W, Calls Tryd.prog 35 #[.slice io n ic] W fun e w' => e = .returned (.bool q) ∧ w' = W) := fun W => by rw [hq]; exact mayID_any io n ic W
  clear h r1 b1 hT t0 t1 t2 hn hq
  go_enter Tryd.func19, Tryd.ntmps19
  by_cases h1 : key < 0
  · go_wp2_with (first | (have hz := hW1; clear hz; refine wpList_at24 hW1 ?_; clear hW1))
    go_ret2
    exact HE.out (by simp [tkMay]; omega) _ HB.out
  by_cases h2 : 64 ≤ key
  · go_wp2_with (first | (have hz := hW1; clear hz; refine wpList_at24 hW1 ?_; clear hW1))
    go_ret2
    exact HE.out (by simp [tkMay]; omega) _ HB.out
  cases q with
  | false =>
    go_wp2_with (first | (have hz := hW1; clear hz; refine wpList_at24 hW1 ?_; clear hW1) | (go_at_call 35; refine (FI.out _).mono ?_; rintro e w2 ⟨rfl, hw2⟩; rw [hw2]; clear hw2 w2))
    go_ret2
    have hq := of_decide_eq_false HQ.out.symm
    exact HE.out (by simp [tkMay, HN.out]; omega) _ HB.out
  | true =>
    by_cases h5 : 32 < l.length
    · have h5' : (32 : Int) < (l.length : Int) := by omega
      have d5 : decide (32 < l.length) = true := decide_eq_true h5
      go_wp2_with (first | (have hz := hW1; clear hz; refine wpList_at24 hW1 ?_; clear hW1) | (go_at_call 35; refine (FI.out _).mono ?_; rintro e w2 ⟨rfl, hw2⟩; rw [hw2]; clear hw2 w2))
      go_ret2
      exact HE.out (by simp [tkMay, HN.out]; omega) _ HB.out
    have h5' : ¬ (32 : Int) < (l.length : Int) := by omega
    have d5 : decide (32 < l.length) = false := decide_eq_false h5
    go_wp2_with (first | (have hz := hW1; clear hz; refine wpList_at24 hW1 ?_; clear hW1) | (go_at_call 35; refine (FI.out _).mono ?_; rintro e w2 ⟨rfl, hw2⟩; rw [hw2]; clear hw2 w2))
    have hq := of_decide_eq_true HQ.out.symm
    clear c0 c1 c2 FI HQ
    go_loopw [4, 32] (fun lv iv wr => ∃ (i : Nat) (dlo : Option Addr) (dlc : Nat), i ≤ l.length ∧ lv = .slice dlo i dlc ∧ iv = .int .i64 i ∧ Hid (DW W1 (l.take i) i dlo dlc wr)) (fun _ iv _ => l.length - (intOf iv).toNat)
    case atStart => exact ⟨0, none, 0, by omega, rfl, rfl, Below.refl _ _, World.ownsRow_nil _ _ _ _, fun c hc => by simp at hc⟩
    case round =>
      obtain ⟨i, dlo, dlc, hi, rfl, rfl, HR⟩ := hrel
      by_cases hlt : i < l.length
      · have y0 : (0 : Int) ≤ (i : Int) := by omega
        have y1 : (i : Int) < (l.length : Int) := by omega
        have z1 : IntKind.i64.wrap ((i : Int) + 1) = (i : Int) + 1 := i64_in _ (by omega) (by omega)
        obtain ⟨c, hc⟩ : ∃ c, l[i]? = some c := ⟨_, List.getElem?_eq_getElem hlt⟩
        obtain ⟨B, off, rfl, hB, hr⟩ := HL.out _ HR.out.bel i c hc
        have HM : Hid (c ∈ l) := List.mem_of_getElem? hc
        have HT : Hid (l.take (i + 1) = l.take i ++ [c]) := flat_take l i c hc
        have lY : (cvC c).length = 5 := rfl
        obtain ⟨q, hq2⟩ : ∃ q, q = cvMay c := ⟨_, rfl⟩
        have HQ : Hid (q = cvMay c) := hq2
        have HV : Hid ((dmV c).oneCell' = true ∧ (l.take (i + 1)).map dmV = (l.take i).map dmV ++ [dmV c]) := ⟨dmV_one c, by rw [HT.out, List.map_append]; rfl⟩
        have FD : Hid (∀ W, Calls Tryd.prog 28 #[.agg (cvC c).toArray] W fun e w' => e = .returned (.tuple #[if q = true then dmV c else .nilIface, .bool q]) ∧ Below W.heap.size W w') := fun W => by rw [hq2]; exact dem_any c (HZ.out c HM.out) W
        obtain ⟨W2, hW2⟩ : ∃ W2, W2 = wr.alloc (.cells zCv.toArray 64) := ⟨_, rfl⟩
        have r2 : Row W2 wr.heap.size 64 zCv := by rw [hW2]; exact Row.at wr _ _ _ _ rfl rfl
        have b2 : Below wr.heap.size wr W2 := by rw [hW2]; exact (Below.refl _ _).alloc (Nat.le_refl _) _
        have HB2 : Hid (∀ w3 w4, SameBut wr.heap.size W2 w3 → Below w3.heap.size w3 w4 → Below wr.heap.size wr w4) := fun w3 w4 h3 h4 => (h3.below b2 (Nat.le_refl _)).trans (h4.mono (by rw [h3.size]; exact b2.size))
        clear hq2 b2
        obtain ⟨ti, vi, hd⟩ := dmV_if c
        rw [hd] at HV FD
        clear hd
        cases q with
        | true =>
          go_wp2_with (first
            | (have hz := hr; clear hz; refine wpList_load_mid rfl 64 (.tmp 34) rfl B (off + i * 5) rfl (cvC c) _ hr Tryd.underlying64 rfl (by kernel_rfl) ?_; clear hr)
            | (have hz := hW2; clear hz; refine wpList_at24 hW2 ?_; clear hW2)
            | (have hz := r2; clear hz; refine wpList_store_Row rfl 64 _ _ rfl wr.heap.size 64 0 zCv (cvC c) r2 (Nat.le_refl _) rfl rfl (by kernel_rfl) (cvC_one c) ?_; intro w3 hr3 hs3; have R3 : Hid (Row w3 wr.heap.size 64 (cvC c)) := row_whole hr3 (by exact Nat.le_refl _); have HS3 : Hid (SameBut wr.heap.size W2 w3) := hs3; clear r2 hr3 hs3)
            | (have hz := R3; clear hz; refine wpList_load_Row rfl 64 (.tmp 6) rfl wr.heap.size 64 (cvC c) R3.out rfl _ Tryd.underlying64 rfl (by kernel_rfl) ?_)
            | (have hz := R3; clear hz; go_at_call 28; refine (FD.out _).mono ?_; rintro e w4 ⟨rfl, hb4⟩; have H4 : Hid (Below wr.heap.size wr w4) := HB2.out _ _ HS3.out hb4; have H5 : Hid (∀ X, (w4.alloc X).ownsRow W1.heap.size 69 1 (.slice dlo i dlc) i ((l.take i).map dmV) ∧ W1.heap.size ≤ (w4.alloc X).heap.size) := (fun X => ⟨owB_keep HR.out.own (H4.out.alloc H4.out.size _), Nat.le_trans HR.out.bel.size (H4.out.alloc H4.out.size X).size⟩); clear hb4 FD R3 HS3 HB2)
            | (have hz := H5; clear hz; at_builtin; refine wpList_append_any el_dms rfl (.tmp 43) (.tmp 45) rfl W1.heap.size dlo i dlc ((l.take i).map dmV) rfl (H5.out _).1 (H5.out _).2 (some ⟨w4.heap.size, 0, none⟩) 1 1 [.iface ti vi] rfl rfl (.inr ⟨w4.heap.size, 0, rfl, fun j v hv => (by rw [Nat.zero_add]; exact (Row.at w4 69 [.iface ti vi] _ _ rfl rfl).cell j v hv)⟩) (by intro u hu; rw [List.mem_singleton.1 hu]; exact HV.out.1) (by simp) (by unfold maxLen; omega) (by omega) ?_; intro ao5 c5 w5 ho5 hb5 hz5 hk5; have H6 : Hid (DW W1 (l.take (i + 1)) (i + 1) ao5 c5 w5) := ⟨(HR.out.bel.trans ((H4.out.alloc H4.out.size _).mono HR.out.bel.size)).trans hb5, by rw [HV.out.2]; exact ho5, fun d hd => (by rw [HT.out] at hd; rcases List.mem_append.1 hd with h | h; exact HR.out.may d h; rw [List.mem_singleton.1 h]; exact HQ.out.symm)⟩; clear H4 H5 ho5 hb5 hz5 hk5))
          exact ⟨⟨i + 1, ao5, c5, by omega, rfl, by go_num, H6⟩, by simp [intOf]; omega⟩
        | false =>
          go_wp2_with (first
            | (have hz := hr; clear hz; refine wpList_load_mid rfl 64 (.tmp 34) rfl B (off + i * 5) rfl (cvC c) _ hr Tryd.underlying64 rfl (by kernel_rfl) ?_; clear hr)
            | (have hz := hW2; clear hz; refine wpList_at24 hW2 ?_; clear hW2)
            | (have hz := r2; clear hz; refine wpList_store_Row rfl 64 _ _ rfl wr.heap.size 64 0 zCv (cvC c) r2 (Nat.le_refl _) rfl rfl (by kernel_rfl) (cvC_one c) ?_; intro w3 hr3 hs3; have R3 : Hid (Row w3 wr.heap.size 64 (cvC c)) := row_whole hr3 (by exact Nat.le_refl _); have HS3 : Hid (SameBut wr.heap.size W2 w3) := hs3; clear r2 hr3 hs3)
            | (have hz := R3; clear hz; refine wpList_load_Row rfl 64 (.tmp 6) rfl wr.heap.size 64 (cvC c) R3.out rfl _ Tryd.underlying64 rfl (by kernel_rfl) ?_)
            | (have hz := R3; clear hz; go_at_call 28; refine (FD.out _).mono ?_; rintro e w4 ⟨rfl, hb4⟩; have H4 : Hid (Below wr.heap.size wr w4) := HB2.out _ _ HS3.out hb4; clear hb4 FD R3 HS3 HB2))
          go_ret2
          refine HE.out ?_ _ (HB.out.trans ((HR.out.bel.trans (H4.out.mono HR.out.bel.size)).mono HB.out.size))
          unfold tkMay
          rw [Bool.and_eq_false_iff]
          right
          rw [List.all_eq_false]
          exact ⟨c, HM.out, by rw [← HQ.out]; simp⟩
      · obtain rfl : i = l.length := by omega
        have y1 : ¬ ((l.length : Nat) : Int) < (l.length : Int) := by omega
        have HF : Hid (DemsP ⟨key, id, l, tag⟩ w (.returned (.tuple #[.slice dlo l.length dlc, .bool true])) wr) := by
          have hx := HR.out
          rw [List.take_length] at hx
          refine ⟨HB.out.trans (hx.bel.mono HB.out.size), ?_⟩
          rw [if_pos ?_]
          · exact ⟨dlo, dlc, rfl, owB_low hx.own HB.out.size⟩
          · unfold tkMay
            rw [Bool.and_eq_true, decide_eq_true_eq, List.all_eq_true]
            refine ⟨?_, fun c hc => hx.may c hc⟩
            dsimp only
            rw [HN.out]
            omega
        clear HR
        go_wp2
        go_ret2
        exact HF.out
end Go.Proofs.YtjooabgjkjnhhaaDoor
