import Derived.Test.YtjooabgjkjnhhaaGreatDoorV24B

/-! The code's token: what a token's caveats ask. -/
namespace Go.Proofs.YtjooabgjkjnhhaaGreatDoor
open Go.RowKit
set_option linter.unusedVariables false
set_option linter.unusedSimpArgs false
set_option maxRecDepth 100000

theorem el_dms : ElT 99 91 1 16 .nilIface := ⟨Tryz.underlying99, by kernel_rfl, rfl, by omega⟩
theorem dmV_one (c : Cv) : (dmV c).oneCell' = true := by
  unfold dmV
  split
  · rfl
  · split
    · rfl
    · split
      · rfl
      · split <;> rfl
theorem dmV_if (c : Cv) : ∃ ti vi, dmV c = .iface ti vi := by
  unfold dmV
  split
  · exact ⟨_, _, rfl⟩
  · split
    · exact ⟨_, _, rfl⟩
    · split
      · exact ⟨_, _, rfl⟩
      · split <;> exact ⟨_, _, rfl⟩
/-- Between two caveats of demandsOf. -/
structure DW (W1 : World) (l : List Cv) (n : Nat) (lo : Option Addr) (lc : Nat) (W : World) : Prop where
  bel : Below W1.heap.size W1 W
  own : W.ownsRow W1.heap.size 91 1 (.slice lo n lc) n (l.map dmV)
  may : ∀ c ∈ l, cvMay c = true
def DemsP (t : Tk) (w : World) (e : Ending) (w' : World) : Prop :=
  Below w.heap.size w w' ∧ if tkMay t = true then ∃ lo lc, e = .returned (.tuple #[.slice lo t.cs.length lc, .bool true]) ∧ w'.ownsRow w.heap.size 91 1 (.slice lo t.cs.length lc) t.cs.length (t.cs.map dmV) else e = .returned (.tuple #[.slice none 0 0, .bool false])
set_option maxHeartbeats 2000000 in
theorem dems_any (t : Tk) (io : Option Addr) (ic : Nat) (lo : Option Addr) (lc : Nat) (w : World) (h : TkV w t io ic lo lc) :
    Calls Tryz.prog 40 #[.agg (tkCells t io ic lo lc).toArray] w (DemsP t w) := by
  obtain ⟨key, id, l, tag⟩ := t
  obtain ⟨T, hT⟩ : ∃ T, T = tkCells ⟨key, id, l, tag⟩ io ic lo lc := ⟨_, rfl⟩
  have t0 : T[0]? = some (.int .i64 key) := by rw [hT]; rfl
  have t1 : T[1]? = some (.slice io id.length ic) := by rw [hT]; rfl
  have t2 : T[2]? = some (.slice lo l.length lc) := by rw [hT]; rfl
  rw [← hT]
  obtain ⟨W1, hW1⟩ : ∃ W1, W1 = w.alloc (.cells T.toArray 40) := ⟨_, rfl⟩
  have r1 : Row W1 w.heap.size 40 T := by rw [hW1]; exact Row.at w _ _ _ _ rfl rfl
  have b1 : Below w.heap.size w W1 := by rw [hW1]; exact (Below.refl _ _).alloc (Nat.le_refl _) _
  have c0 := r1.cell 0 _ t0
  have c1 := r1.cell 1 _ t1
  have c2 := r1.cell 2 _ t2
  have HB : Hid (Below w.heap.size w W1) := b1
  have HL : Hid (∀ W, Below W1.heap.size W1 W → CvsIn W lo l) := fun W hh => h.cs.keep (b1.trans (hh.mono b1.size))
  have HZ : Hid (∀ c ∈ l, c.ok) := h.ok
  have HE : Hid (tkMay ⟨key, id, l, tag⟩ = false → ∀ W, Below w.heap.size w W → DemsP ⟨key, id, l, tag⟩ w (.returned (.tuple #[.slice none 0 0, .bool false])) W) := fun h1 W h2 => ⟨h2, by rw [if_neg (by rw [h1]; simp)]⟩
  obtain ⟨n, hn⟩ : ∃ n, id.length = n := ⟨_, rfl⟩
  have HN : Hid (id.length = n) := hn
  rw [hn] at c1
  obtain ⟨q, hq⟩ : ∃ q, q = decide (1 ≤ n ∧ n ≤ 64) := ⟨_, rfl⟩
  have HQ : Hid (q = decide (1 ≤ n ∧ n ≤ 64)) := hq
  have FI : Hid (∀ W, Calls Tryz.prog 29 #[.slice io n ic] W fun e w' => e = .returned (.bool q) ∧ w' = W) := fun W => by rw [hq]; exact mayID_any io n ic W
  clear h r1 b1 hT t0 t1 t2 hn hq
  go_enter Tryz.func40, Tryz.ntmps40
  by_cases h1 : key < 0
  · go_wp2_with (first | (have hz := hW1; clear hz; refine wpList_at24 hW1 ?_; clear hW1))
    go_ret2
    exact HE.out (by simp [tkMay]; omega) _ HB.out
  by_cases h2 : 64 ≤ key
  · go_wp2_with (first | (have hz := hW1; clear hz; refine wpList_at24 hW1 ?_; clear hW1))
    go_ret2
    exact HE.out (by simp [tkMay]; omega) _ HB.out
  cases q with
  | false =>
    go_wp2_with (first | (have hz := hW1; clear hz; refine wpList_at24 hW1 ?_; clear hW1) | (go_at_call 29; refine (FI.out _).mono ?_; rintro e w2 ⟨rfl, hw2⟩; rw [hw2]; clear hw2 w2))
    go_ret2
    have hq := of_decide_eq_false HQ.out.symm
    exact HE.out (by simp [tkMay, HN.out]; omega) _ HB.out
  | true =>
    by_cases h5 : 32 < l.length
    · have h5' : (32 : Int) < (l.length : Int) := by omega
      have d5 : decide (32 < l.length) = true := decide_eq_true h5
      go_wp2_with (first | (have hz := hW1; clear hz; refine wpList_at24 hW1 ?_; clear hW1) | (go_at_call 29; refine (FI.out _).mono ?_; rintro e w2 ⟨rfl, hw2⟩; rw [hw2]; clear hw2 w2))
      go_ret2
      exact HE.out (by simp [tkMay, HN.out]; omega) _ HB.out
    have h5' : ¬ (32 : Int) < (l.length : Int) := by omega
    have d5 : decide (32 < l.length) = false := decide_eq_false h5
    go_wp2_with (first | (have hz := hW1; clear hz; refine wpList_at24 hW1 ?_; clear hW1) | (go_at_call 29; refine (FI.out _).mono ?_; rintro e w2 ⟨rfl, hw2⟩; rw [hw2]; clear hw2 w2))
    have hq := of_decide_eq_true HQ.out.symm
    clear c0 c1 c2 FI HQ
    go_loopw [4, 32] (fun lv iv wr => ∃ (i : Nat) (dlo : Option Addr) (dlc : Nat), i ≤ l.length ∧ lv = .slice dlo i dlc ∧ iv = .int .i64 i ∧ Hid (DW W1 (l.take i) i dlo dlc wr)) (fun _ iv _ => l.length - (intOf iv).toNat)
    case atStart => exact ⟨0, none, 0, by omega, rfl, rfl, Below.refl _ _, World.ownsRow_nil _ _ _ _, fun c hc => by simp at hc⟩
    case round =>
      obtain ⟨i, dlo, dlc, hi, rfl, rfl, HR⟩ := hrel
      by_cases hlt : i < l.length
      · have y0 : (0 : Int) ≤ (i : Int) := by omega
        have y1 : (i : Int) < (l.length : Int) := by omega
        have z1 : IntKind.i64.wrap ((i : Int) + 1) = (i : Int) + 1 := i64_in _ (by omega) (by omega)
        obtain ⟨c, hc⟩ : ∃ c, l[i]? = some c := ⟨_, List.getElem?_eq_getElem hlt⟩
        obtain ⟨B, off, rfl, hB, hr⟩ := HL.out _ HR.out.bel i c hc
        have HM : Hid (c ∈ l) := List.mem_of_getElem? hc
        have HT : Hid (l.take (i + 1) = l.take i ++ [c]) := flat_take l i c hc
        have lY : (cvC c).length = 5 := rfl
        obtain ⟨q, hq2⟩ : ∃ q, q = cvMay c := ⟨_, rfl⟩
        have HQ : Hid (q = cvMay c) := hq2
        have HV : Hid ((dmV c).oneCell' = true ∧ (l.take (i + 1)).map dmV = (l.take i).map dmV ++ [dmV c]) := ⟨dmV_one c, by rw [HT.out, List.map_append]; rfl⟩
        have FD : Hid (∀ W, Calls Tryz.prog 35 #[.agg (cvC c).toArray] W fun e w' => e = .returned (.tuple #[if q = true then dmV c else .nilIface, .bool q]) ∧ Below W.heap.size W w') := fun W => by rw [hq2]; exact dem_any c (HZ.out c HM.out) W
        obtain ⟨W2, hW2⟩ : ∃ W2, W2 = wr.alloc (.cells zCv.toArray 52) := ⟨_, rfl⟩
        have r2 : Row W2 wr.heap.size 52 zCv := by rw [hW2]; exact Row.at wr _ _ _ _ rfl rfl
        have b2 : Below wr.heap.size wr W2 := by rw [hW2]; exact (Below.refl _ _).alloc (Nat.le_refl _) _
        have HB2 : Hid (∀ w3 w4, SameBut wr.heap.size W2 w3 → Below w3.heap.size w3 w4 → Below wr.heap.size wr w4) := fun w3 w4 h3 h4 => (h3.below b2 (Nat.le_refl _)).trans (h4.mono (by rw [h3.size]; exact b2.size))
        clear hq2 b2
        obtain ⟨ti, vi, hd⟩ := dmV_if c
        rw [hd] at HV FD
        clear hd
        cases q with
        | true =>
          go_wp2_with (first
            | (have hz := hr; clear hz; refine wpList_load_mid rfl 52 (.tmp 34) rfl B (off + i * 5) rfl (cvC c) _ hr Tryz.underlying52 rfl (by kernel_rfl) ?_; clear hr)
            | (have hz := hW2; clear hz; refine wpList_at24 hW2 ?_; clear hW2)
            | (have hz := r2; clear hz; refine wpList_store_Row rfl 52 _ _ rfl wr.heap.size 52 0 zCv (cvC c) r2 (Nat.le_refl _) rfl rfl (by kernel_rfl) (cvC_one c) ?_; intro w3 hr3 hs3; have R3 : Hid (Row w3 wr.heap.size 52 (cvC c)) := row_whole hr3 (by exact Nat.le_refl _); have HS3 : Hid (SameBut wr.heap.size W2 w3) := hs3; clear r2 hr3 hs3)
            | (have hz := R3; clear hz; refine wpList_load_Row rfl 52 (.tmp 6) rfl wr.heap.size 52 (cvC c) R3.out rfl _ Tryz.underlying52 rfl (by kernel_rfl) ?_)
            | (have hz := R3; clear hz; go_at_call 35; refine (FD.out _).mono ?_; rintro e w4 ⟨rfl, hb4⟩; have H4 : Hid (Below wr.heap.size wr w4) := HB2.out _ _ HS3.out hb4; have H5 : Hid (∀ X, (w4.alloc X).ownsRow W1.heap.size 91 1 (.slice dlo i dlc) i ((l.take i).map dmV) ∧ W1.heap.size ≤ (w4.alloc X).heap.size) := (fun X => ⟨owB_keep HR.out.own (H4.out.alloc H4.out.size _), Nat.le_trans HR.out.bel.size (H4.out.alloc H4.out.size X).size⟩); clear hb4 FD R3 HS3 HB2)
            | (have hz := H5; clear hz; at_builtin; refine wpList_append_any el_dms rfl (.tmp 43) (.tmp 45) rfl W1.heap.size dlo i dlc ((l.take i).map dmV) rfl (H5.out _).1 (H5.out _).2 (some ⟨w4.heap.size, 0, none⟩) 1 1 [.iface ti vi] rfl rfl (.inr ⟨w4.heap.size, 0, rfl, fun j v hv => (by rw [Nat.zero_add]; exact (Row.at w4 91 [.iface ti vi] _ _ rfl rfl).cell j v hv)⟩) (by intro u hu; rw [List.mem_singleton.1 hu]; exact HV.out.1) (by simp) (by unfold maxLen; omega) (by omega) ?_; intro ao5 c5 w5 ho5 hb5 hz5 hk5; have H6 : Hid (DW W1 (l.take (i + 1)) (i + 1) ao5 c5 w5) := ⟨(HR.out.bel.trans ((H4.out.alloc H4.out.size _).mono HR.out.bel.size)).trans hb5, by rw [HV.out.2]; exact ho5, fun d hd => (by rw [HT.out] at hd; rcases List.mem_append.1 hd with h | h; exact HR.out.may d h; rw [List.mem_singleton.1 h]; exact HQ.out.symm)⟩; clear H4 H5 ho5 hb5 hz5 hk5))
          exact ⟨⟨i + 1, ao5, c5, by omega, rfl, by go_num, H6⟩, by simp [intOf]; omega⟩
        | false =>
          go_wp2_with (first
            | (have hz := hr; clear hz; refine wpList_load_mid rfl 52 (.tmp 34) rfl B (off + i * 5) rfl (cvC c) _ hr Tryz.underlying52 rfl (by kernel_rfl) ?_; clear hr)
            | (have hz := hW2; clear hz; refine wpList_at24 hW2 ?_; clear hW2)
            | (have hz := r2; clear hz; refine wpList_store_Row rfl 52 _ _ rfl wr.heap.size 52 0 zCv (cvC c) r2 (Nat.le_refl _) rfl rfl (by kernel_rfl) (cvC_one c) ?_; intro w3 hr3 hs3; have R3 : Hid (Row w3 wr.heap.size 52 (cvC c)) := row_whole hr3 (by exact Nat.le_refl _); have HS3 : Hid (SameBut wr.heap.size W2 w3) := hs3; clear r2 hr3 hs3)
            | (have hz := R3; clear hz; refine wpList_load_Row rfl 52 (.tmp 6) rfl wr.heap.size 52 (cvC c) R3.out rfl _ Tryz.underlying52 rfl (by kernel_rfl) ?_)
            | (have hz := R3; clear hz; go_at_call 35; refine (FD.out _).mono ?_; rintro e w4 ⟨rfl, hb4⟩; have H4 : Hid (Below wr.heap.size wr w4) := HB2.out _ _ HS3.out hb4; clear hb4 FD R3 HS3 HB2))
          go_ret2
          refine HE.out ?_ _ (HB.out.trans ((HR.out.bel.trans (H4.out.mono HR.out.bel.size)).mono HB.out.size))
          unfold tkMay
          rw [Bool.and_eq_false_iff]
          right
          rw [List.all_eq_false]
          exact ⟨c, HM.out, by rw [← HQ.out]; simp⟩
      · obtain rfl : i = l.length := by omega
        have y1 : ¬ ((l.length : Nat) : Int) < (l.length : Int) := by omega
        have HF : Hid (DemsP ⟨key, id, l, tag⟩ w (.returned (.tuple #[.slice dlo l.length dlc, .bool true])) wr) := by
          have hx := HR.out
          rw [List.take_length] at hx
          refine ⟨HB.out.trans (hx.bel.mono HB.out.size), ?_⟩
          rw [if_pos ?_]
          · exact ⟨dlo, dlc, rfl, owB_low hx.own HB.out.size⟩
          · unfold tkMay
            rw [Bool.and_eq_true, decide_eq_true_eq, List.all_eq_true]
            refine ⟨?_, fun c hc => hx.may c hc⟩
            dsimp only
            rw [HN.out]
            omega
        clear HR
        go_wp2
        go_ret2
        exact HF.out
end Go.Proofs.YtjooabgjkjnhhaaGreatDoor


/-! The code's token: Put. -/
namespace Go.Proofs.YtjooabgjkjnhhaaGreatDoor
open Go.RowKit
set_option linter.unusedVariables false
set_option linter.unusedSimpArgs false
set_option maxRecDepth 100000

theorem three_IsB (W : World) (k : Int) (n m : Nat) : IsB (W.alloc (.cells #[.int .u8 (k % 256), .int .u8 ((n : Int) % 256), .int .u8 ((m : Int) % 256)] 5)) (some ⟨W.heap.size, 0, none⟩) [BitVec.ofInt 8 k, BitVec.ofNat 8 n, BitVec.ofNat 8 m] := by
  have r := Row.at W 5 ([BitVec.ofInt 8 k, BitVec.ofNat 8 n, BitVec.ofNat 8 m].map B8) _ _ rfl rfl
  have e : ([BitVec.ofInt 8 k, BitVec.ofNat 8 n, BitVec.ofNat 8 m].map B8).toArray = #[.int .u8 (k % 256), .int .u8 ((n : Int) % 256), .int .u8 ((m : Int) % 256)] := by
    simp only [List.map_cons, List.map_nil, B8, ofNat_mod, ofInt_mod]
  rw [e] at r
  exact row_isb r
def startB : List By := [80#8, 67#8, 84#8, 75#8, 1#8]
/-- What stands once the first bytes of a token's bytes are there. -/
structure PW (w : World) (t : Tk) (io : Option Addr) (ic : Nat) (T : List Value) (dlo : Option Addr) (W : World) : Prop where
  bel : Below w.heap.size w W
  box : Row W w.heap.size 40 T
  id : IsB W io t.id
  dm : ∀ i c, t.cs[i]? = some c → ∃ B, dlo = some ⟨B, 0, none⟩ ∧ W.cell? ⟨B, 0 + i, none⟩ = some (dmV c)
theorem PW.keep {w : World} {t : Tk} {io : Option Addr} {ic : Nat} {T : List Value} {dlo : Option Addr} {W W2 : World} (h : PW w t io ic T dlo W) (hb : Below W.heap.size W W2) : PW w t io ic T dlo W2 :=
  ⟨h.bel.trans (hb.mono h.bel.size), h.box.below hb h.box.lt, h.id.below hb (Nat.le_refl _), fun i c hc => by
    obtain ⟨B, e, hcell⟩ := h.dm i c hc
    refine ⟨B, e, (hb.cell (p := ⟨B, 0 + i, none⟩) ?_).trans hcell⟩
    rcases Nat.lt_or_ge B W.heap.size with h' | h'
    · exact h'
    · simp [World.cell?, Array.getElem?_eq_none h'] at hcell⟩
theorem box_tag {W : World} {g ty : Nat} {T : List Value} {tg : List By} (hr : Row W g ty T) (h : (T.drop 3).take 32 = tg.map B8) : IsB W (some ⟨g, 3, none⟩) tg :=
  .inr ⟨g, 3, rfl, fun j v hj => by
    refine hr.cell (3 + j) _ ?_
    have h1 : (tg.map B8)[j]? = some (B8 v) := by rw [List.getElem?_map, hj]; rfl
    rw [← h, List.getElem?_take] at h1
    split at h1
    · rw [List.getElem?_drop] at h1; exact h1
    · cases h1⟩
set_option maxHeartbeats 2000000 in
theorem put_any (t : Tk) (io : Option Addr) (ic : Nat) (lo : Option Addr) (lc : Nat) (w : World) (h : TkV w t io ic lo lc) :
    Calls Tryz.prog 22 #[.agg (tkCells t io ic lo lc).toArray] w (PutP t w) := by
  obtain ⟨T, hT⟩ : ∃ T, T = tkCells t io ic lo lc := ⟨_, rfl⟩
  have lT : Hid (T.length = 35) := by show _ = _; rw [hT]; exact tkC_len h.tag
  have t0 : T[0]? = some (.int .i64 t.key) := by rw [hT]; rfl
  have t1 : T[1]? = some (.slice io t.id.length ic) := by rw [hT]; rfl
  have t3 : Hid ((T.drop 3).take 32 = t.tag.map B8) := by show _ = _; rw [hT]; exact tkC_tagpart _ _ _ _ _ _ _ _ h.tag
  obtain ⟨W1, hW1⟩ : ∃ W1, W1 = w.alloc (.cells T.toArray 40) := ⟨_, rfl⟩
  have r1 : Row W1 w.heap.size 40 T := by rw [hW1]; exact Row.at w _ _ _ _ rfl rfl
  have b1 : Below w.heap.size w W1 := by rw [hW1]; exact (Below.refl _ _).alloc (Nat.le_refl _) _
  have FD := dems_any t io ic lo lc W1 (h.keep b1)
  rw [← hT] at FD ⊢
  have R1 : Hid (Row W1 w.heap.size 40 T) := r1
  have HB : Hid (Below w.heap.size w W1) := b1
  have HV : Hid (∀ W, Below w.heap.size w W → IsB W io t.id) := fun W hb => h.id.below hb (Nat.le_refl _)
  have HG : Hid (t.tag.length = 32 ∧ (io = none → ic = 0)) := ⟨h.tag, h.inil⟩
  have HMY : Hid (∀ c, c ∈ t.cs → c.ok) := h.ok
  clear h hT r1 b1
  cases hq : tkMay t with
  | false =>
    have HQ : Hid (tkMay t = false) := hq
    go_enter Tryz.func22, Tryz.ntmps22
    go_wp2_with (first
      | (have hz := hW1; clear hz; refine wpList_at24 hW1 ?_; clear hW1)
      | (have hz := R1; clear hz; refine wpList_load_Row rfl 40 (.tmp 1) rfl w.heap.size 40 T R1.out rfl _ Tryz.underlying40 rfl (by rw [lT.out]; kernel_rfl) ?_)
      | (go_at_call 40; refine FD.mono ?_; rintro e w2 ⟨hb2, he2⟩; rw [if_neg (by rw [HQ.out]; simp)] at he2; subst he2; have HB2 : Hid (Below w.heap.size w w2) := HB.out.trans (hb2.mono HB.out.size); clear FD hb2))
    go_ret2
    exact ⟨HB2.out, by rw [if_neg (by rw [HQ.out]; simp)]; rfl⟩
  | true =>
    have HQ : Hid (tkMay t = true) := hq
    have hp := tkMay_parts hq
    have HP : Hid (t.id.length ≤ 64 ∧ t.cs.length ≤ 32 ∧ ∀ c ∈ t.cs, cvMay c = true) := ⟨by omega, by omega, by
      unfold tkMay at hq
      rw [Bool.and_eq_true, List.all_eq_true] at hq
      exact hq.2⟩
    clear hp hq
    have HC : Hid (headB t = startB ++ [BitVec.ofInt 8 t.key, BitVec.ofNat 8 t.id.length, BitVec.ofNat 8 t.cs.length]) := rfl
    have HE : Hid (∀ W bo bc, Below w.heap.size w W → Own w.heap.size W (.slice bo (8 + t.id.length + 26 * t.cs.length + 32) bc) (headB t ++ t.id ++ t.cs.flatMap cvB ++ t.tag) → PutP t w (.returned (.tuple #[.slice bo (8 + t.id.length + 26 * t.cs.length + 32) bc, .int .i64 0])) W) := fun W bo bc h1 h2 => ⟨h1, by
      rw [if_pos HQ.out]
      refine ⟨bo, bc, by rw [tkB_len HG.out.1], ?_⟩
      rw [tkB_len HG.out.1, tkB_eq]
      exact h2⟩
    obtain ⟨key, hkey⟩ : ∃ key, key = t.key := ⟨_, rfl⟩
    obtain ⟨n, hn⟩ : ∃ n, n = t.id.length := ⟨_, rfl⟩
    obtain ⟨m, hm⟩ : ∃ m, m = t.cs.length := ⟨_, rfl⟩
    rw [← hn] at t1 HE HC HP
    rw [← hm] at HE HC HP
    rw [← hkey] at t0 HC
    have HN : Hid (n = t.id.length ∧ m = t.cs.length) := ⟨hn, hm⟩
    have HM : Hid (n ≤ 64 ∧ m ≤ 32) := ⟨HP.out.1, HP.out.2.1⟩
    have T01 : Hid (T[0]? = some (.int .i64 key) ∧ T[1]? = some (.slice io n ic)) := ⟨t0, t1⟩
    clear hkey t0 t1 hn hm
    go_enter Tryz.func22, Tryz.ntmps22
    go_wp2_with (first
      | (have hz := hW1; clear hz; refine wpList_at24 hW1 ?_; clear hW1)
      | (have hz := FD; clear hz; refine wpList_load_Row rfl 40 (.tmp 1) rfl w.heap.size 40 T R1.out rfl _ Tryz.underlying40 rfl (by rw [lT.out]; kernel_rfl) ?_)
      | (go_at_call 40; refine FD.mono ?_; rintro e w2 ⟨hb2, he2⟩; rw [if_pos HQ.out, ← HN.out.2] at he2; obtain ⟨dlo, dlc, rfl, ho2⟩ := he2; have HD : Hid (PW w t io ic T dlo w2) := ⟨HB.out.trans (hb2.mono HB.out.size), R1.out.below hb2 R1.out.lt, HV.out _ (HB.out.trans (hb2.mono HB.out.size)), fun i c hc => by
            have hi : i < t.cs.length := (List.getElem?_eq_some_iff.1 hc).1
            have h3 := HN.out.2
            rcases ho2.2 with ⟨_, e0⟩ | ⟨g, cc, cur, e, _⟩
            · omega
            · injection e with e1 _ _
              refine ⟨g, e1, ?_⟩
              have := ho2.cells (g := g) (by rw [e1]; rfl) i (dmV c) (by rw [List.getElem?_map, hc]; rfl)
              rw [Addr.add_mid] at this
              exact this⟩; have kc := Lib.run_convert_bytes_const (P := Tryz.prog) w2 23 5 #[.int .u8 80, .int .u8 67, .int .u8 84, .int .u8 75, .int .u8 1] 5 5 Tryz.underlying23 Tryz.underlying5; obtain ⟨W3, hW3⟩ : ∃ W3, W3 = w2.alloc (.cells #[.int .u8 80, .int .u8 67, .int .u8 84, .int .u8 75, .int .u8 1] 5 (5, 6)) := ⟨_, rfl⟩; have i3 : Hid (∀ X, IsB (W3.alloc X) (some ⟨w2.heap.size, 0, none⟩) startB) := (fun X => by
            have h3 : IsB W3 (some ⟨w2.heap.size, 0, none⟩) startB := by rw [hW3]; exact isb_mk24 (t := 5) (fz := (5, 6)) (heap_alloc_new w2 _)
            exact h3.below ((Below.refl _ _).alloc (Nat.le_refl _) _) (Nat.le_refl _)); have HX : Hid (∀ X, Below w2.heap.size w2 (W3.alloc X)) := (fun X => by rw [hW3]; exact ((Below.refl _ _).alloc (Nat.le_refl _) _).alloc (by simp) _); have cc0 := HD.out.box.cell 0 _ T01.out.1; have cc1 := HD.out.box.cell 1 _ T01.out.2; have C3 : Hid (W3.cell? ⟨w.heap.size, 0, none⟩ = some (.int .i64 key) ∧ W3.cell? ⟨w.heap.size, 1, none⟩ = some (.slice io n ic)) := (by
            have h3 : Below w2.heap.size w2 W3 := by rw [hW3]; exact (Below.refl _ _).alloc (Nat.le_refl _) _
            have h4 := HD.out.box.below h3 HD.out.box.lt
            exact ⟨h4.cell 0 _ T01.out.1, h4.cell 1 _ T01.out.2⟩); clear FD hb2 ho2 cc0 cc1)
      | (have hz := hW3; clear hz; refine wpList_at24 hW3 ?_; clear hW3 kc; have cc0 := C3.out.1; have cc1 := C3.out.2)
      | (have hz := i3; clear hz; at_builtin; refine wpList_append_full24 rfl (.tmp 18) (.tmp 29) rfl w2.heap.size 5 startB rfl rfl (i3.out _) W3.heap.size 3 3 _ rfl rfl (three_IsB W3 key n m) (by omega) (by omega) ?_; intro ao3 c3 w5 ho5 hb5; have H5 : Hid (Own w2.heap.size w5 (.slice ao3 8 c3) (headB t) ∧ Below w2.heap.size w2 w5) := ⟨by rw [HC.out]; exact own_le ho5 (HX.out _).size, (HX.out _).trans (hb5.mono (HX.out _).size)⟩; have HD5 : Hid (PW w t io ic T dlo w5) := HD.out.keep H5.out.2; have cc5 := HD5.out.box.cell 1 _ T01.out.2; clear i3 HX cc0 cc1 C3 ho5 hb5)
      | (have hz := H5; clear hz; at_builtin; refine wpList_append_more rfl (.tmp 31) (.tmp 33) rfl w2.heap.size w2 ao3 8 c3 (headB t) rfl rfl H5.out.1 H5.out.2 io n ic t.id rfl HN.out.1.symm HD5.out.id HG.out.2 (by have := HM.out; omega) ?_; intro ao6 c6 w6 ho6 hb6; have H6 : Hid (Own w2.heap.size w6 (.slice ao6 (8 + n) c6) (headB t ++ t.id) ∧ Below w2.heap.size w2 w6) := ⟨ho6, hb6⟩; clear H5 HD5 cc5 ho6 hb6))
    have HZ : Hid (∀ W, Below w2.heap.size w2 W → PW w t io ic T dlo W) := fun W hW => HD.out.keep hW
    have HTG : Hid (∀ W, Below w2.heap.size w2 W → IsB W (some ⟨w.heap.size, 3, none⟩) t.tag) := fun W hW => box_tag (HZ.out W hW).box t3.out
    clear R1 HB HV lT HD HC T01 t3
    go_loopw [6, 37] (fun bv iv wr => ∃ (i : Nat) (bo : Option Addr) (bc : Nat), i ≤ m ∧ bv = .slice bo (8 + n + 26 * i) bc ∧ iv = .int .i64 i ∧ Hid (Own w2.heap.size wr (.slice bo (8 + n + 26 * i) bc) (headB t ++ t.id ++ (t.cs.take i).flatMap cvB) ∧ Below w2.heap.size w2 wr)) (fun _ iv _ => m - (intOf iv).toNat)
    case atStart => exact ⟨0, ao6, c6, by omega, rfl, rfl, ⟨by simpa using H6.out.1, H6.out.2⟩⟩
    case round =>
      obtain ⟨i, bo, bc, hi, rfl, rfl, HR⟩ := hrel
      by_cases hlt : i < m
      · have y0 : (0 : Int) ≤ (i : Int) := by omega
        have y1 : (i : Int) < (m : Int) := by omega
        have z1 : IntKind.i64.wrap ((i : Int) + 1) = (i : Int) + 1 := i64_in _ (by omega) (by have := HM.out; omega)
        obtain ⟨c, hc⟩ : ∃ c, t.cs[i]? = some c := ⟨_, List.getElem?_eq_getElem (by have := HN.out.2; omega)⟩
        obtain ⟨dB, hdlo, cd⟩ := (HZ.out _ HR.out.2).dm i c hc
        subst hdlo
        rw [Nat.zero_add] at cd
        have HMc : Hid (c ∈ t.cs) := List.mem_of_getElem? hc
        have HT : Hid ((t.cs.take (i + 1)).flatMap cvB = (t.cs.take i).flatMap cvB ++ cvB c) := by show _ = _; rw [flat_take t.cs i c hc, List.flatMap_append]; simp
        have FB : Hid (∀ W, Calls Tryz.prog 41 #[dmV c] W fun e w' => e = .returned (.agg ((cvB c).map B8).toArray) ∧ Below W.heap.size W w') := fun W => bytesOf_any c (HMY.out c HMc.out) (HP.out.2.2 c HMc.out) W
        have CB26 : Hid ((cvB c).length = 26) := cvB_len c
        have HLN : Hid ((headB t ++ t.id ++ (t.cs.take i).flatMap cvB).length = 8 + n + 26 * i) := by
          show _ = _
          rw [List.length_append, List.length_append, fl_len, List.length_take, ← HN.out.1, ← HN.out.2, Nat.min_eq_left (by omega)]; rfl
        clear hc
        generalize dmV c = dv at *
        generalize cvB c = CB at *
        go_wp2_with (first
          | (have hz := FB; clear hz; go_at_call 41; refine (FB.out _).mono ?_; rintro e w7 ⟨rfl, hb7⟩; have H7 : Hid (Below wr.heap.size wr w7) := hb7; have HZ7 : Hid (Row (w7.alloc (.cells z26.toArray 102)) w7.heap.size 102 z26) := Row.at w7 _ _ _ _ rfl rfl; clear FB hb7)
          | (have hz := HZ7; clear hz; refine wpList_store_Row rfl 102 _ _ rfl w7.heap.size 102 0 z26 (CB.map B8) HZ7.out (by rw [List.length_map, CB26.out]; exact Nat.le_refl _) rfl rfl (by rw [List.length_map, CB26.out]; kernel_rfl) (B8_one _) ?_; intro w8 hr8 hs8; have R8 : Hid (Row w8 w7.heap.size 102 (CB.map B8)) := row_whole hr8 (by rw [List.length_map, CB26.out]; exact Nat.le_refl _); have H8 : Hid (Own w2.heap.size w8 (.slice bo (8 + n + 26 * i) bc) (headB t ++ t.id ++ (t.cs.take i).flatMap cvB) ∧ Below w2.heap.size w2 w8) := (by
              have h8 : Below wr.heap.size wr w8 := hs8.below (H7.out.alloc H7.out.size _) H7.out.size
              exact ⟨HR.out.1.keep h8, HR.out.2.trans (h8.mono HR.out.2.size)⟩); clear HZ7 hr8 hs8 H7)
          | (have hz := R8; clear hz; at_builtin; refine wpList_append_more rfl (.tmp 43) (.tmp 44) rfl w2.heap.size w2 bo (8 + n + 26 * i) bc _ rfl HLN.out H8.out.1 H8.out.2 (some ⟨w7.heap.size, 0, none⟩) 26 26 CB rfl CB26.out (row_isb R8.out) (by simp) (by have := HM.out; omega) ?_; intro ao9 c9 w9 ho9 hb9; have H9 : Hid (Own w2.heap.size w9 (.slice ao9 (8 + n + 26 * i + 26) c9) (headB t ++ t.id ++ (t.cs.take (i + 1)).flatMap cvB) ∧ Below w2.heap.size w2 w9) := ⟨by rw [HT.out, ← List.append_assoc]; exact ho9, hb9⟩; clear R8 H8 ho9 hb9))
        exact ⟨⟨i + 1, ao9, c9, by omega, rfl, by go_num, H9⟩, by simp [intOf]; omega⟩
      · obtain rfl : i = m := by omega
        have y1 : ¬ ((i : Nat) : Int) < (i : Int) := by omega
        have HLN : Hid ((headB t ++ t.id ++ (t.cs.take i).flatMap cvB).length = 8 + n + 26 * i) := by
          show _ = _
          rw [List.length_append, List.length_append, fl_len, List.length_take, ← HN.out.1, ← HN.out.2, Nat.min_eq_left (by omega)]; rfl
        have HTK : Hid (t.cs.take i = t.cs) := List.take_of_length_le (by have := HN.out.2; omega)
        have HB2 : Hid (Below w.heap.size w w2) := (HZ.out w2 (Below.refl _ _)).bel
        go_wp2_with (first
          | (have hz := HTG; clear hz; at_builtin; refine wpList_append_more rfl (.tmp 47) (.tmp 49) rfl w2.heap.size w2 bo (8 + n + 26 * i) bc _ rfl HLN.out HR.out.1 HR.out.2 (some ⟨w.heap.size, 3, none⟩) 32 32 t.tag rfl HG.out.1 (HTG.out _ HR.out.2) (by simp) (by have := HM.out; omega) ?_; intro ao9 c9 w9 ho9 hb9; have H9 : Hid (PutP t w (.returned (.tuple #[.slice ao9 (8 + n + 26 * i + 32) c9, .int .i64 0])) w9) := HE.out w9 ao9 c9 (HB2.out.trans (hb9.mono HB2.out.size)) (by rw [HTK.out] at ho9; exact own_le ho9 HB2.out.size); clear ho9 hb9 HTG))
        go_ret2
        exact H9.out
end Go.Proofs.YtjooabgjkjnhhaaGreatDoor
