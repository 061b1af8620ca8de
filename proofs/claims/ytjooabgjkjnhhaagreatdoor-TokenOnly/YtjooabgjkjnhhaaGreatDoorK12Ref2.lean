import Derived.Test.YtjooabgjkjnhhaaGreatDoorMNew
import Derived.Test.YtjooabgjkjnhhaaGreatDoorT24A
import Derived.Test.YtjooabgjkjnhhaaGreatDoorOpenA

/-! The code's tag: a Mac written to, its Sum, Of. -/
namespace Go.Proofs.YtjooabgjkjnhhaaGreatDoor
open Go.RowKit

set_option maxHeartbeats 1000000 in
set_option maxRecDepth 100000 in
/-- Copy of a Digest that is a part of a block, from its place o on. -/
theorem copy_part (g o T : Nat) (all cs : List Value) (M : List By) (w : World) (hr : Row w g T all) (hcs : (all.drop o).take 73 = cs) (hv : DigV cs M) :
    Calls Tryz.prog 78 #[.pointer (some ⟨g, o, none⟩)] w fun e w' => e = .returned (.pointer (some ⟨w.heap.size, 0, none⟩)) ∧ Dig w' w.heap.size M ∧ Below w.heap.size w w' := by
  have hcl := hv.len
  have h1 := hv.one
  have HV : Hid (DigV cs M) := hv
  clear hv
  have hz : ∀ w : World, (zeroValue 150).run Tryz.prog w = .ok (.agg (digCells zero8 (List.replicate 64 0) 0).toArray) w := fun _ => by kernel_rfl
  go_enter Tryz.func78, Tryz.ntmps78
  go_wp2_with (first | (refine wpList_load_part rfl 150 _ rfl g o T 73 _ hr rfl _ cs hcs hcl Tryz.underlying150 rfl (by kernel_rfl) ?_) | (refine wpList_store_Row rfl 150 _ _ rfl w.heap.size 150 0 (digCells zero8 (List.replicate 64 0) 0) cs (Row.at _ _ _ _ _ rfl rfl) (by rw [hcl, digCells_len _ _ _ (by simp)]; omega) rfl rfl (by rw [hcl]; kernel_rfl) h1 ?_; intro w1 hr1 hs1; have r1 := row_whole hr1 (by rw [hcl, digCells_len _ _ _ (by simp)]; omega); clear hr1))
  go_ret
  exact ⟨rfl, HV.out.dig r1, hs1.below ((Below.refl _ _).alloc (Nat.le_refl _) _) (Nat.le_refl _)⟩

theorem MacAt.lt {w : World} {g : Nat} {k b : List By} (h : MacAt w g k b) : g < w.heap.size := by
  obtain ⟨_, _, _, _, _, r⟩ := h; exact r.lt
theorem macWrite_any (g : Nat) (k b : List By) (ao : Option Addr) (n cap : Nat) (bs : List By) (hn : bs.length = n) (w : World) (hd : MacAt w g k b) (hb : IsBn g w ao bs) (hcap : n ≤ cap) (hl : b.length + n ≤ 140737488353216) :
    Calls Tryz.prog 63 #[.pointer (some ⟨g, 0, none⟩), .slice ao n cap] w fun e w' => e = .returned (.tuple #[]) ∧ MacAt w' g k (b ++ bs) ∧ Kept g w w' := by
  obtain ⟨post, h0, h1⟩ := hd
  subst hn
  have h64 : (tn (kb k) 54#8).length = 64 := by rw [tn_len, kb_len]
  refine (write_at g 152 post _ ao cap bs w h1 hb hcap (by rw [List.length_append, h64]; omega) (by omega)).mono ?_
  rintro e w' ⟨rfl, h2, h3⟩
  exact ⟨rfl, ⟨post, h0, by rw [← List.append_assoc]; exact h2⟩, h3⟩

set_option maxHeartbeats 1000000 in
set_option maxRecDepth 100000 in
theorem macSum_any (g : Nat) (k b : List By) (w : World) (hd : MacAt w g k b) (hl : b.length ≤ 140737488353216) :
    Calls Tryz.prog 64 #[.pointer (some ⟨g, 0, none⟩)] w fun e w' => e = .returned (.agg ((tag k b).map B8).toArray) ∧ Below w.heap.size w w' := by
  have hg := hd.lt
  have HT : Hid (tag k b = sha (tn (kb k) 92#8 ++ sha (tn (kb k) 54#8 ++ b))) := rfl
  have i54 := tn_len (kb k) 54#8
  have i92 := tn_len (kb k) 92#8
  rw [kb_len] at i54 i92
  obtain ⟨post, hpo, hdg⟩ := hd
  generalize tn (kb k) 92#8 = O at *
  have hIl : (tn (kb k) 54#8 ++ b).length = 64 + b.length := by rw [List.length_append, i54]
  generalize tn (kb k) 54#8 ++ b = I at *
  clear i54
  have hsl := shaLen I
  have hsm := fun W (h : DigT W g 152 post I) => sum_at g 152 post I W h (by omega)
  generalize sha I = S at *
  go_enter Tryz.func64, Tryz.ntmps64
  go_wp2_with fail
  have r0 := Row.at w 26 ((List.replicate 32 (0 : By)).map B8) _ _ rfl rfl
  have b0 : ∀ o1, Below w.heap.size w (w.alloc o1) := fun o1 => (Below.refl _ _).alloc (Nat.le_refl _) _
  have dga : ∀ W, Below w.heap.size w W → DigT W g 152 post I := fun W hW => by
    obtain ⟨p, h1, h2, h3⟩ := hdg
    exact ⟨p, h1, h2, h3.below hW hg⟩
  have DGA : Hid (∀ W, Below w.heap.size w W → DigT W g 152 post I) := dga
  clear dga hdg
  refine (hsm _ (DGA.out _ (b0 _))).mono ?_
  rintro e w1 ⟨rfl, hb1⟩
  clear hsm
  replace r0 := r0.below hb1 (by simp)
  have bb : Below w.heap.size w w1 := (b0 _).trans (hb1.mono (by simp))
  clear hb1
  have hz1 := r0.lt
  generalize hHB : w1.heap.size = HB at *
  go_wp2_with (refine wpList_store_Row rfl 26 _ _ rfl HB 26 0 ((List.replicate 32 (0 : By)).map B8) (S.map B8) (Row.at _ _ _ _ _ hHB.symm rfl) (by simp [hsl]) rfl rfl (by rw [List.length_map, hsl]; kernel_rfl) (B8_one _) ?_; intro w2 hr2 hs2)
  have r2 := row_whole hr2 (by simp [hsl])
  have bl2 : Below w1.heap.size w1 w2 := hs2.below ((Below.refl _ _).alloc (Nat.le_refl _) _) (by omega)
  replace r0 := r0.below bl2 (by omega)
  replace bb := bb.trans (bl2.mono (by omega))
  have hz2 := r2.lt
  clear hr2 hs2 bl2 hHB
  obtain ⟨cs, hcv, hcr⟩ := (digT_iff _ _ _ _ _).1 (DGA.out _ bb)
  refine (copy_part g 73 152 (cs ++ post) post O w2 hcr (by rw [List.drop_left' hcv.len, List.take_of_length_le (by rw [hpo.len]; omega)]) hpo).mono ?_
  rintro e w3 ⟨rfl, dg3, hb3⟩
  replace r0 := r0.below hb3 (by omega)
  replace r2 := r2.below hb3 hz2
  have hz3 : w2.heap.size < w3.heap.size := by obtain ⟨_, _, _, r⟩ := dg3; exact r.lt
  replace bb := bb.trans (hb3.mono bb.size)
  clear hb3 hcr hcv cs
  generalize hDB : w2.heap.size = DB at *
  go_wp2_with fail
  have wt := write_any DB O (some ⟨HB, 0, none⟩) 32 S w3 dg3 (.inr ⟨HB, 0, rfl, fun j v hj => ⟨by omega, by rw [Nat.zero_add]; exact r2.cell j _ (by rw [List.getElem?_map, hj]; rfl)⟩⟩) (by omega) (by omega) (by omega)
  rw [hsl] at wt
  refine wt.mono ?_
  clear wt
  rintro e w4 ⟨rfl, dg4, k4⟩
  replace r0 := r0.kept k4 (by omega)
  replace bb := k4.toBelow bb (by omega) (by omega)
  clear k4 dg3
  go_wp2_with fail
  have hS2l := shaLen (O ++ S)
  have hsm2 := sum_any DB (O ++ S) w4 dg4 (by rw [List.length_append]; omega)
  generalize sha (O ++ S) = S2 at *
  refine hsm2.mono ?_
  rintro e w5 ⟨rfl, hb5⟩
  replace r0 := r0.below hb5 r0.lt
  replace bb := bb.trans (hb5.mono bb.size)
  clear hb5 hsm2 dg4
  generalize hN : w.heap.size = N at *
  go_wp2_with (refine wpList_store_Row rfl 26 _ _ rfl _ _ 0 _ (S2.map B8) r0 (by simp [hS2l]) rfl rfl (by rw [List.length_map, hS2l]; kernel_rfl) (B8_one _) ?_; intro w9 hr9 hs9)
  have hr := row_whole hr9 (by simp [hS2l])
  exact bodyPost_ret_by (results_Row Tryz.results64 _ w9 N 26 _ _ rfl hr Tryz.underlying26 rfl (by rw [List.length_map, hS2l]; kernel_rfl)) rfl ⟨by rw [HT.out], by rw [hN]; exact hs9.below bb (Nat.le_refl _)⟩

set_option maxHeartbeats 1000000 in
set_option maxRecDepth 100000 in
theorem mac_any (ao bo : Option Addr) (na ca nb cb : Nat) (k b : List By) (hna : k.length = na) (hnb : b.length = nb) (w : World) (hk : IsB w ao k) (hb : IsB w bo b) (hca : na ≤ ca) (hcb : nb ≤ cb)
    (hma : na ≤ 140737488353280) (hmb : nb ≤ 140737488353000) :
    Calls Tryz.prog 49 #[.slice ao na ca, .slice bo nb cb] w fun e w' => e = .returned (.agg ((tag k b).map B8).toArray) ∧ Below w.heap.size w w' := by
  have HA : Hid (k.length = na) := hna
  have HB : Hid (b.length = nb) := hnb
  have IKB : Hid (IsB w ao k) := hk
  have IB : Hid (IsB w bo b) := hb
  clear hna hnb hk hb
  have b0 : ∀ o1, Below w.heap.size w (w.alloc o1) := fun o1 => (Below.refl _ _).alloc (Nat.le_refl _) _
  go_enter Tryz.func49, Tryz.ntmps49
  go_wp2_with fail
  have r0 := Row.at w 26 ((List.replicate 32 (0 : By)).map B8) _ _ rfl rfl
  refine (newMac_any ao ca na k HA.out _ (IKB.out.below (b0 _) (Nat.le_refl _)) hca hma).mono ?_
  rintro e w1 ⟨g, rfl, hg, mc, hb1⟩
  replace r0 := r0.below hb1 (by simp)
  replace hg : w.heap.size + 1 ≤ g := by simpa using hg
  have bb : Below w.heap.size w w1 := (b0 _).trans (hb1.mono (by simp))
  clear hb1
  have hg1 := mc.lt
  have isb : IsBn g w1 bo b := by
    rcases IB.out with h | ⟨B, off, h, hc⟩
    · exact .inl h
    · refine .inr ⟨B, off, h, fun j v hj => ?_⟩
      have hlt := block_lt_of_cell (hc j v hj)
      simp at hlt
      exact ⟨by omega, (bb.cell (p := ⟨B, off + j, none⟩) hlt).trans (hc j v hj)⟩
  go_wp2_with fail
  refine (macWrite_any g k [] bo nb cb b HB.out w1 mc isb hcb (by simp; omega)).mono ?_
  rintro e w2 ⟨rfl, mc2, k2⟩
  rw [List.nil_append] at mc2
  replace r0 := r0.kept k2 (by omega)
  replace bb := k2.toBelow bb (by omega) bb.size
  clear k2 isb mc
  go_wp2_with fail
  refine (macSum_any g k b w2 mc2 (by have := HB.out; omega)).mono ?_
  rintro e w3 ⟨rfl, hb3⟩
  replace r0 := r0.below hb3 r0.lt
  replace bb := bb.trans (hb3.mono bb.size)
  clear hb3 mc2
  have hsl := tag_len k b
  generalize hN : w.heap.size = N at *
  go_wp2_with (refine wpList_store_Row rfl 26 _ _ rfl _ _ 0 _ ((tag k b).map B8) r0 (by simp [hsl]) rfl rfl (by rw [List.length_map, hsl]; kernel_rfl) (B8_one _) ?_; intro w9 hr9 hs9)
  have hr := row_whole hr9 (by simp [hsl])
  exact bodyPost_ret_by (results_Row Tryz.results49 _ w9 N 26 _ _ rfl hr Tryz.underlying26 rfl (by rw [List.length_map, hsl]; kernel_rfl)) rfl ⟨rfl, by rw [hN]; exact hs9.below bb (Nat.le_refl _)⟩
end Go.Proofs.YtjooabgjkjnhhaaGreatDoor


/-! The reference's rings: find, Has. -/
namespace Go.Proofs.YtjooabgjkjnhhaaGreatDoor
open Go.RowKit
set_option linter.unusedVariables false

/-- A ring's secrets: numbers and bytes, as they came. -/
abbrev Secs := List (Int × List By)
/-- The place of a key. -/
def fnd (l : Secs) (key : Int) : Option Nat := l.findIdx? fun p => p.1 == key
def fndI (l : Secs) (key : Int) : Int := match fnd l key with | some i => (i : Int) | none => -1

/-- The reference's ring in memory. -/
structure RgAt (w : World) (g : Nat) (ao : Option Addr) (cap : Nat) (vs : List Value) (l : Secs) : Prop where
  row : Row w g 84 [.slice ao l.length cap]
  key : ∀ i, i < l.length → ∃ q, ao = some ⟨q, 0, none⟩ ∧ w.cell? ⟨q, i * 2, none⟩ = some (.int .i64 (l.getD i (0, [])).1) ∧ w.cell? ⟨q, i * 2 + 1, none⟩ = some (vs.getD i undef)
  bytes : ∀ i, i < l.length → ∃ bo n c, vs.getD i undef = .slice bo n c ∧ IsB w bo (l.getD i (0, [])).2 ∧ n = (l.getD i (0, [])).2.length ∧ n ≤ c ∧ (bo = none → c = 0)

theorem fnd_none_iff (l : Secs) (key : Int) : fnd l key = none ↔ ∀ i, i < l.length → (l.getD i (0, [])).1 ≠ key := by
  unfold fnd
  rw [List.findIdx?_eq_none_iff]
  constructor
  · intro h i hi he
    have := h (l[i]) (List.getElem_mem hi)
    rw [List.getD_eq_getElem?_getD, List.getElem?_eq_getElem hi] at he
    simp at this he
    exact this he
  · intro h x hx
    obtain ⟨i, hi, rfl⟩ := List.mem_iff_getElem.1 hx
    have := h i hi
    rw [List.getD_eq_getElem?_getD, List.getElem?_eq_getElem hi] at this
    simpa using this
theorem fnd_some (l : Secs) (key : Int) (k : Nat) (hk : k < l.length) (h1 : (l.getD k (0, [])).1 = key) (h2 : ∀ i, i < k → (l.getD i (0, [])).1 ≠ key) : fnd l key = some k := by
  unfold fnd
  rw [List.findIdx?_eq_some_iff_getElem]
  refine ⟨hk, ?_, ?_⟩
  · rw [List.getD_eq_getElem?_getD, List.getElem?_eq_getElem hk] at h1; simpa using h1
  · intro j hj
    have := h2 j hj
    rw [List.getD_eq_getElem?_getD, List.getElem?_eq_getElem (by omega)] at this
    simpa using this

set_option maxHeartbeats 1000000 in
set_option maxRecDepth 100000 in
theorem find_any (w : World) (g : Nat) (ao : Option Addr) (cap : Nat) (vs : List Value) (l : Secs) (h : RgAt w g ao cap vs l) (hl : l.length ≤ 64) (key : Int) :
    Calls Tryz.prog 48 #[.pointer (some ⟨g, 0, none⟩), .int .i64 key] w fun e w' => e = .returned (.int .i64 (fndI l key)) ∧ w' = w := by
  have h0 := h.row.cell 0 _ rfl
  have hN : Hid (∀ v, fnd l key = v → fndI l key = match v with | some i => (i : Int) | none => -1) := fun v hv => by unfold fndI; rw [hv]
  go_enter Tryz.func48, Tryz.ntmps48
  go_wp2
  go_loopw [5] (fun iv wr => ∃ k : Nat, k ≤ l.length ∧ iv = .int .i64 k ∧ (∀ i, i < k → (l.getD i (0, [])).1 ≠ key) ∧ wr = w) (fun iv _ => l.length - (intOf iv).toNat)
  case atStart => exact ⟨0, by omega, rfl, fun _ hi => absurd hi (by omega), rfl⟩
  case round =>
    obtain ⟨k, hk, rfl, hne, rfl⟩ := hrel
    by_cases hlt : k < l.length
    · have y0 : (0 : Int) ≤ (k : Int) := by omega
      have y1 : (k : Int) < (l.length : Int) := by omega
      obtain ⟨q, hq, hc, hc2⟩ := h.key k hlt
      clear hc2
      subst hq
      by_cases he : (l.getD k (0, [])).1 = key
      · have hF := hN.out _ (fnd_some l key k hlt he hne)
        have HF : Hid (fndI l key = (k : Int)) := hF
        clear hF hN hne h
        rw [he] at hc
        clear he
        go_wp2
        go_ret
        exact ⟨by rw [HF.out]; rfl, rfl⟩
      · have HN : Hid (∀ i, i < k + 1 → (l.getD i (0, [])).1 ≠ key) := fun i hi => by
          rcases Nat.lt_or_ge i k with h1 | h1
          · exact hne i h1
          · obtain rfl : i = k := by omega
            exact he
        generalize (l.getD k (0, [])).1 = x at hc he
        have hb : (x == key) = false := by simpa using he
        clear he hne
        go_wp2
        exact ⟨⟨k + 1, by omega, by go_num, HN.out, trivial⟩, by simp [intOf]; omega⟩
    · obtain rfl : k = l.length := by omega
      have y1 : ¬ ((l.length : Nat) : Int) < (l.length : Int) := by omega
      have hF : Hid (fndI l key = -1) := hN.out _ ((fnd_none_iff l key).2 hne)
      clear hne hN
      go_wp2
      go_ret
      exact ⟨by rw [hF.out]; rfl, rfl⟩

set_option maxHeartbeats 1000000 in
set_option maxRecDepth 100000 in
theorem rhas_any (w : World) (g : Nat) (ao : Option Addr) (cap : Nat) (vs : List Value) (l : Secs) (h : RgAt w g ao cap vs l) (hl : l.length ≤ 64) (key : Int) :
    Calls Tryz.prog 27 #[.pointer (some ⟨g, 0, none⟩), .int .i64 key] w fun e w' => e = .returned (.bool (fnd l key).isSome) ∧ w' = w := by
  have H : Calls Tryz.prog 48 #[.pointer (some ⟨g, 0, none⟩), .int .i64 key] w fun e w' => e = .returned (.int .i64 (fndI l key)) ∧ w' = w := find_any w g ao cap vs l h hl key
  have hx : Hid ((fnd l key).isSome = decide (0 ≤ fndI l key)) := by
    show _ = _
    unfold fndI
    cases fnd l key with
    | none => simp
    | some i => simp
  generalize fndI l key = x at H hx
  clear h
  go_enter Tryz.func27, Tryz.ntmps27
  go_wp2_with (refine H.mono ?_; rintro e w1 ⟨rfl, rfl⟩)
  by_cases h0 : 0 ≤ x
  · go_wp2
    go_ret
    exact ⟨by rw [hx.out]; simp [h0], rfl⟩
  · go_wp2
    go_ret
    exact ⟨by rw [hx.out]; simp, rfl⟩

end Go.Proofs.YtjooabgjkjnhhaaGreatDoor


/-! The reference's rings: Sign. -/
namespace Go.Proofs.YtjooabgjkjnhhaaGreatDoor
open Go.RowKit
set_option linter.unusedVariables false

theorem cell_lt {w : World} {p : Addr} {v : Value} (h : w.cell? p = some v) : p.block < w.heap.size := by
  rcases Nat.lt_or_ge p.block w.heap.size with h1 | h1
  · exact h1
  · simp [World.cell?, Array.getElem?_eq_none h1] at h
theorem RgAt.keep {w w' : World} {g : Nat} {ao : Option Addr} {cap : Nat} {vs : List Value} {l : Secs} (h : RgAt w g ao cap vs l) (hb : Below w.heap.size w w') : RgAt w' g ao cap vs l where
  row := h.row.below hb h.row.lt
  key i hi := by
    obtain ⟨q, e, h1, h2⟩ := h.key i hi
    exact ⟨q, e, (hb.cell (cell_lt h1)).trans h1, (hb.cell (cell_lt h2)).trans h2⟩
  bytes i hi := by
    obtain ⟨bo, n, c, e, h1, h2⟩ := h.bytes i hi
    exact ⟨bo, n, c, e, h1.below hb (Nat.le_refl _), h2⟩

/-- What a ring signs, and tells. -/
def sgn (l : Secs) (key : Int) (b : List By) : List By := match fnd l key with | some i => tag (l.getD i (0, [])).2 b | none => List.replicate 32 0
def sgnE (l : Secs) (key : Int) : Int := match fnd l key with | some _ => 0 | none => 13
theorem sgn_len (l : Secs) (key : Int) (b : List By) : (sgn l key b).length = 32 := by
  unfold sgn; split
  · exact sha_len _
  · rfl
theorem fnd_lt {l : Secs} {key : Int} {i : Nat} (h : fnd l key = some i) : i < l.length := by
  unfold fnd at h
  rw [List.findIdx?_eq_some_iff_getElem] at h
  exact h.1

set_option maxHeartbeats 1000000 in
set_option maxRecDepth 100000 in
theorem rsign_any (w : World) (g : Nat) (ao : Option Addr) (cap : Nat) (vs : List Value) (l : Secs) (h : RgAt w g ao cap vs l) (hl : l.length ≤ 64) (hb256 : ∀ i, i < l.length → (l.getD i (0, [])).2.length ≤ 256) (key : Int)
    (bo : Option Addr) (nb cb : Nat) (b : List By) (hnb : b.length = nb) (hb : IsB w bo b) (hbk : bo = none → cb = 0) (hmb : nb ≤ 140737488353000) :
    Calls Tryz.prog 33 #[.pointer (some ⟨g, 0, none⟩), .int .i64 key, .slice bo nb cb] w fun e w' => e = .returned (.tuple #[.agg ((sgn l key b).map B8).toArray, .int .i64 (sgnE l key)]) ∧ Below w.heap.size w w' := by
  have b0 : ∀ o1, Below w.heap.size w (w.alloc o1) := fun o1 => (Below.refl _ _).alloc (Nat.le_refl _) _
  have HL := sgn_len l key b
  have H : Hid (∀ o1, Calls Tryz.prog 48 #[.pointer (some ⟨g, 0, none⟩), .int .i64 key] (w.alloc o1) fun e w' => e = .returned (.int .i64 (fndI l key)) ∧ w' = w.alloc o1) := fun o1 => find_any _ g ao cap vs l (h.keep (b0 o1)) hl key
  go_enter Tryz.func33, Tryz.ntmps33
  go_wp2_with fail
  refine (H.out _).mono ?_
  rintro e w1 ⟨rfl, hw1⟩
  have bw : Below w.heap.size w w1 := by rw [hw1]; exact b0 _
  have r0 : Row w1 w.heap.size 26 ((List.replicate 32 (0 : By)).map B8) := by rw [hw1]; exact Row.at w _ _ _ _ rfl rfl
  clear hw1 b0 H
  replace h := h.keep bw
  replace hb := hb.below bw (Nat.le_refl _)
  have h0 := h.row.cell 0 _ rfl
  have HB : Hid (b.length = nb) := hnb
  clear hnb
  cases hf : fnd l key with
  | none =>
    have e1 : fndI l key = -1 := by unfold fndI; rw [hf]
    have HS : Hid (sgn l key b = List.replicate 32 0 ∧ sgnE l key = 13) := ⟨by unfold sgn; rw [hf], by unfold sgnE; rw [hf]⟩
    rw [e1]
    clear e1 hf
    go_wp2_with (refine wpList_store_Row rfl 26 _ _ rfl w.heap.size 26 0 ((List.replicate 32 (0 : By)).map B8) ((List.replicate 32 (0 : By)).map B8) r0 (by simp) rfl rfl (by kernel_rfl) (B8_one _) ?_; intro w9 hr9 hs9)
    have hr := row_whole hr9 (by simp)
    refine bodyPost_ret_by (results_rowtmp Tryz.results33 _ w9 w.heap.size 26 _ _ rfl hr Tryz.underlying26 rfl (by kernel_rfl)) rfl ⟨?_, hs9.below bw (Nat.le_refl _)⟩
    rw [HS.out.1, HS.out.2]; rfl
  | some i =>
    have hi := fnd_lt hf
    have e1 : fndI l key = (i : Int) := by unfold fndI; rw [hf]
    obtain ⟨q, hq, hc1, hc2⟩ := h.key i hi
    obtain ⟨ko, kn, kc, ev, hkb, hkn, hkc, hknil⟩ := h.bytes i hi
    have hk256 := hb256 i hi
    subst hq
    rw [ev] at hc2
    have HS : Hid (sgn l key b = tag (l.getD i (0, [])).2 b ∧ sgnE l key = 0) := ⟨by unfold sgn; rw [hf], by unfold sgnE; rw [hf]⟩
    have y0 : (0 : Int) ≤ (i : Int) := by omega
    have y1 : (i : Int) < (l.length : Int) := by omega
    have y2 : ¬ (i : Int) < 0 := by omega
    rw [e1]
    generalize hK : (l.getD i (0, [])).2 = K at hkb hkn hk256 HS
    have HK : Hid (K.length = kn) := hkn.symm
    have hkl : kn ≤ 256 := by rw [hkn]; exact hk256
    have M : Hid (Calls Tryz.prog 38 #[.slice ko kn kc, .slice bo nb cb] w1 fun e w' => e = .returned (.agg ((tag K b).map B8).toArray) ∧ Below w1.heap.size w1 w') := by
      exact refMac_any ko bo kn kc nb cb K b HK.out HB.out w1 hkb hb hknil hbk (by omega) hmb
    have htl : (tag K b).length = 32 := sha_len _
    have HT : Hid ((tag K b).length = 32) := htl
    clear htl hK hkb hkn hk256 hf e1 ev hc1 h hb256
    generalize tag K b = TG at M HS HT
    go_wp2_with fail
    refine M.out.mono ?_
    rintro e w2 ⟨rfl, hb2⟩
    have r2 := r0.below hb2 r0.lt
    have bw2 := bw.trans (hb2.mono bw.size)
    go_wp2_with (refine wpList_store_Row rfl 26 _ _ rfl w.heap.size 26 0 ((List.replicate 32 (0 : By)).map B8) (TG.map B8) r2 (by simp [HT.out]) rfl rfl (by rw [List.length_map, HT.out]; kernel_rfl) (B8_one _) ?_; intro w9 hr9 hs9)
    have hr := row_whole hr9 (by simp [HT.out])
    refine bodyPost_ret_by (results_rowtmp Tryz.results33 _ w9 w.heap.size 26 _ _ rfl hr Tryz.underlying26 rfl (by rw [List.length_map, HT.out]; kernel_rfl)) rfl ⟨?_, hs9.below bw2 (Nat.le_refl _)⟩
    rw [HS.out.1, HS.out.2]; rfl

end Go.Proofs.YtjooabgjkjnhhaaGreatDoor
