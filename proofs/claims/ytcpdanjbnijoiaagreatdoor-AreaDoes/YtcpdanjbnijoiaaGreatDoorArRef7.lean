import Derived.Test.YtcpdanjbnijoiaaGreatDoorI11ParseOk
import Derived.Test.YtcpdanjbnijoiaaGreatDoorArRef5

/-! The reference's Parse, one contract. -/
namespace Go.Proofs.YtcpdanjbnijoiaaGreatDoor
open Go.RowKit

theorem rparse_wrong (ao : Option Addr) (n cap : Nat) (b : List By) (hb0 : b.length = n) (w : World) (hb : IsB w ao b) (hcap : n ≤ cap) (e0 a0 : Nat) (h : parse b = .wrong e0 a0) :
    Calls Tryz.prog 67 #[.slice ao n cap] w fun e w' => e = .returned (.tuple #[.agg zImg.toArray, .agg #[.int .i64 e0, .int .i64 a0]]) ∧ Below w.heap.size w w' := by
  unfold parse at h
  rw [hb0] at h
  split at h
  · injection h with h; injection h with h1 h2; subst h1 h2
    exact rparse_long ao n cap w (by assumption)
  · rename_i hl
    split at h
    · rename_i e i hs
      injection h with h; injection h with h1 h2; subst h1 h2
      exact rparse_scan ao n cap b hb0 w hb (by omega) _ _ hs
    · rename_i hs
      simp only at h
      obtain ⟨X, hX⟩ : ∃ X, num4 (b.drop 12) = X := ⟨_, rfl⟩
      rw [hX] at h
      refine rparse_bad ao n cap b hb0 w hb hcap (by omega) hs X hX e0 a0 ?_
      split at h
      · injection h with h; injection h with h1 h2; exact .inl ⟨by assumption, h1.symm, h2.symm⟩
      · split at h
        · injection h with h; injection h with h1 h2; exact .inr (.inl ⟨by omega, by assumption, h1.symm, h2.symm⟩)
        · split at h
          · injection h with h; injection h with h1 h2; exact .inr (.inr ⟨by omega, by assumption, h1.symm, h2.symm⟩)
          · cases h

theorem rparse_img (ao : Option Addr) (n cap : Nat) (b : List By) (hb0 : b.length = n) (w : World) (hb : IsB w ao b) (hcap : n ≤ cap) (s k v : Nat) (p t : List By) (h : parse b = .img s k v p t) :
    Calls Tryz.prog 67 #[.slice ao n cap] w fun e w' => ∃ ao' c', e = .returned (.tuple #[.agg (imgC s k v (.slice ao' p.length c') t).toArray, .agg #[.int .i64 0, .int .i64 0]]) ∧ Own w.heap.size w' (.slice ao' p.length c') p ∧ Below w.heap.size w w' := by
  have hpi := parse_img h
  unfold parse at h
  rw [hb0] at h hpi
  split at h
  · cases h
  · rename_i hl
    split at h
    · cases h
    · rename_i hs
      simp only at h
      obtain ⟨X, hX⟩ : ∃ X, num4 (b.drop 12) = X := ⟨_, rfl⟩
      rw [hX] at h
      split at h
      · cases h
      · split at h
        · cases h
        · split at h
          · cases h
          · injection h with h; injection h with h1 h; injection h with h2 h; injection h with h3 h; injection h with h4 h5
            have hxp : X = p.length := by
              have := hpi.2.2.2.2.2.1
              rw [← h4, List.length_take, List.length_drop, hb0]
              clear hpi h3 h1 h2 h4 h5 hX
              omega
            subst hxp
            have hx := hX
            have := rparse_ok ao n cap b hb0 w hb hcap (by omega) hs p.length hx (by omega) s k v h1 h2 h3
            rw [h4, h5] at this
            exact this

end Go.Proofs.YtcpdanjbnijoiaaGreatDoor


/-! Layer 14, the document's answer: Bytes, Read. -/
namespace Go.Proofs.YtcpdanjbnijoiaaGreatDoor
open Go.RowKit
set_option linter.unusedVariables false

theorem abytes_succ (s : RS) (a : Int) (p : Nat) : s.abytes a (p + 1) = s.abytes a p ++ (s.pages.getD (s.pgN a p) []).flatten := by
  unfold RS.abytes
  rw [List.range_succ, List.flatMap_append]
  simp
theorem take_flat (PG : List (List By)) (k : Nat) (hk : k < PG.length) : (PG.take (k + 1)).flatten = (PG.take k).flatten ++ PG.getD k [] := by
  rw [List.take_add_one, List.getElem?_eq_getElem hk, List.flatten_append, List.getD_eq_getElem?_getD, List.getElem?_eq_getElem hk]
  simp
theorem take_one' (X : List By) (i : Nat) (hi : i < X.length) : X.take (i + 1) = X.take i ++ [X.getD i 0] := by
  rw [List.take_add_one, List.getElem?_eq_getElem hi, List.getD_eq_getElem?_getD, List.getElem?_eq_getElem hi]; simp
theorem abytes_len {s : RS} (h : s.Ar) {a : Int} (ha : a = 0 ∨ a = 1) : ∀ p, p ≤ s.c.area.toNat → (s.abytes a p).length = p * (32 * s.c.cells.toNat)
  | 0, _ => by simp [RS.abytes]
  | p + 1, hp => by
    have hq := (h.pg ha (p := p) (by omega)).2.1
    have hl : (s.pages.getD (s.pgN a p) []).length = s.c.cells.toNat := by have := h.pgLen hq; have := h.cells; omega
    rw [abytes_succ, List.length_append, abytes_len h ha p (by omega), flat_len _ (h.by8 hq), hl, Nat.add_mul, Nat.one_mul]

/-- A slice of its own that holds these bytes. -/
def OB (N : Nat) (w0 : World) (v : Value) (L : List By) (W : World) : Prop := ∃ ao c, v = .slice ao L.length c ∧ Own N W (.slice ao L.length c) L ∧ Below N w0 W

set_option maxHeartbeats 1000000 in
set_option maxRecDepth 100000 in
theorem r14bytes_any (F : RF) (s : RS) (a : Int) (ha : a = 0 ∨ a = 1) (w : World) (h : RAt w F s) (hA : s.Ar) :
    Calls Tryz.prog 66 #[.pointer (some ⟨F.g, 0, none⟩), .int .i64 a] w fun e w' => ∃ v, e = .returned v ∧ OB w.heap.size w v (s.abytes a s.c.area.toNat) w' := by
  obtain ⟨n1, n2, n3⟩ := hA.nums ha
  have har := hA.area
  have hce := hA.cells
  have HW : Hid (∀ W, Below w.heap.size w W → RAt W F s) := fun W hb => h.below hb
  have HN : Hid (∀ p : Nat, p < s.c.area.toNat → IntKind.i64.wrap (2 + a * s.c.area + (p : Int)) = ((s.pgN a p : Nat) : Int) ∧ s.pgN a p < s.pages.length ∧ s.pgN a p < s.erases.length) := n3
  have HA : Hid s.Ar := hA
  have HP : Hid (∀ n, n < s.pages.length → ∃ q : Nat × Nat, ∀ W, RAt W F s → W.cell? ⟨F.pB, n, none⟩ = some (.slice (some ⟨q.1, 0, none⟩) (s.pages.getD n []).length q.2) ∧ Pg W q.1 (s.pages.getD n [])) := fun n hn => h.pgAt hA n hn
  obtain ⟨M, hM⟩ : ∃ M : Nat, s.c.area = (M : Int) := Int.eq_ofNat_of_zero_le har.1
  have HMM : Hid (s.c.area.toNat = M) := by show _ = _; omega
  have hM64 : M ≤ 64 := by omega
  have HAL : Hid (∀ p, p ≤ M → (s.abytes a p).length = p * (32 * s.c.cells.toNat)) := fun p hp => abytes_len hA ha p (by omega)
  have HAS : Hid (∀ p, s.abytes a (p + 1) = s.abytes a p ++ (s.pages.getD (s.pgN a p) []).flatten) := fun p => abytes_succ s a p
  have HA0 : Hid (s.abytes a 0 = []) := rfl
  have hC : s.c.cells.toNat ≤ 256 := by omega
  have HLE : Hid (∀ p, p < M → (s.pages.getD (s.pgN a p) []).length = s.c.cells.toNat) := fun p hp => by
    have hq := (hA.pg ha (p := p) (by omega)).2.1
    have := hA.pgLen hq; omega
  rw [show s.c.area.toNat = M by omega]
  generalize s.abytes a = AB at *
  have O0 : Hid (OB w.heap.size w (.slice (some ⟨w.heap.size, 0, none⟩) 0 0) (AB 0) (w.alloc (.cells #[] 5))) := by
    show OB _ _ _ _ _
    rw [HA0.out]
    exact ⟨_, _, rfl, own_empty w.heap.size w (Nat.le_refl _) #[] rfl, (Below.refl _ _).alloc (Nat.le_refl _) _⟩
  generalize hAA : a * s.c.area = AA at *
  clear n3 h hA
  go_enter Tryz.func66, Tryz.ntmps66
  go_wp2
  go_loopw [5, 6] (fun ov iv wr => ∃ p : Nat, p ≤ M ∧ iv = .int .i64 p ∧ Hid (OB w.heap.size w ov (AB p) wr)) (fun _ iv _ => M - (intOf iv).toNat)
  case atStart => exact ⟨0, by omega, rfl, O0⟩
  case round =>
    clear O0
    obtain ⟨p, hp, rfl, OO⟩ := hrel
    obtain ⟨ao, c, rfl, ho, hb⟩ := OO.out
    have r := HW.out _ hb
    have c6 := r.row.cell 6 (.int .i64 s.c.area) rfl
    rw [hM] at c6
    clear OO
    by_cases hlt : p < M
    · have y1 : (p : Int) < (M : Int) := by omega
      obtain ⟨m1, m2, m3⟩ := HN.out p (by rw [HMM.out]; exact hlt)
      obtain ⟨q, hq⟩ := HP.out _ m2
      have HQ : Hid (∀ W, Below w.heap.size w W → Pg W q.1 (s.pages.getD (s.pgN a p) [])) := fun W hW => (hq _ (HW.out W hW)).2
      have cp := (hq _ r).1
      have c7 := r.cPages
      have m4 : ((s.pgN a p : Nat) : Int) < (s.pages.length : Int) := by omega
      have m5 : (0 : Int) ≤ ((s.pgN a p : Nat) : Int) := by omega
      have hlen := HLE.out p hlt
      have hL1 := HAL.out p (by omega)
      have hL1b : (AB p).length ≤ 64 * 8192 := by
        rw [hL1]
        exact Nat.mul_le_mul (by omega) (by omega)
      have HS := HAS.out p
      have HSH : Hid (AB (p + 1) = AB p ++ (s.pages.getD (s.pgN a p) []).flatten) := HS
      have O1 : Hid (OB w.heap.size w (.slice ao (AB p).length c) (AB p ++ ((s.pages.getD (s.pgN a p) []).take 0).flatten) wr) := by
        show OB _ _ _ _ _
        rw [List.take_zero, List.flatten_nil, List.append_nil]; exact ⟨ao, c, rfl, ho, hb⟩
      rw [hM] at hAA
      have HLL : Hid (∀ L, L = AB p → L.length ≤ 64 * 8192) := fun L e => by rw [e]; exact hL1b
      clear HS hL1 hq m2 m3 r ho
      generalize hLPe : (AB p).length = LP at *
      clear hLPe
      generalize s.pages.getD (s.pgN a p) [] = PG at *
      generalize s.pgN a p = PN at *
      generalize s.c.cells.toNat = C at *
      rw [hlen] at cp
      have HLP : Hid (PG.length = C) := hlen
      clear hlen
      obtain ⟨wo, hwo⟩ : ∃ wo, wo = wr := ⟨wr, rfl⟩
      subst hwo
      go_wp2
      go_quiet (fail)
      go_wp2
      have O2 : Hid (OB w.heap.size w (.slice ao LP c) (AB p ++ (PG.take 0).flatten) (wo.drewN nq)) := by
        obtain ⟨x, y, e1, e2, e3⟩ := O1.out
        exact ⟨x, y, e1, e2.drewN nq, Below_dr e3 ⟨nq, rfl⟩⟩
      clear O1 hb cp c7 c6
      go_loopw [5, 8] (fun ov iv wr => ∃ k : Nat, k ≤ C ∧ iv = .int .i64 k ∧ Hid (OB w.heap.size w ov (AB p ++ (PG.take k).flatten) wr)) (fun _ iv _ => C - (intOf iv).toNat)
      case atStart => exact ⟨0, by omega, rfl, O2⟩
      case round =>
        clear O2
        obtain ⟨k, hk, rfl, OO⟩ := hrel
        obtain ⟨ao3, c3, rfl, ho3, hb3⟩ := OO.out
        by_cases hkl : k < C
        · have y2 : (k : Int) < (C : Int) := by omega
          have y3 : (0 : Int) ≤ (k : Int) := by omega
          have HT : Hid ((PG.take (k + 1)).flatten = (PG.take k).flatten ++ PG.getD k []) := take_flat PG k (by rw [HLP.out]; exact hkl)
          have HX8 : Hid ((PG.getD k []).length = 32) := (HQ.out w (Below.refl _ _)).2 _ (by rw [List.getD_eq_getElem?_getD, List.getElem?_eq_getElem (by rw [HLP.out]; exact hkl)]; exact List.getElem_mem _)
          have HBY : Hid (∀ W, Below w.heap.size w W → ∀ i, i < 32 → W.cell? ⟨q.1, k * 32 + i, none⟩ = some (.int .u8 (((PG.getD k []).getD i 0).toNat : Int))) := fun W hW i hi => (HQ.out W hW).byte k i (by rw [HLP.out]; exact hkl) hi
          have hL2 : (AB p ++ (PG.take k).flatten).length ≤ 600000 := by
            rw [List.length_append, flat_len _ (fun x hx => (HQ.out w (Below.refl _ _)).2 x (List.mem_of_mem_take hx)), List.length_take, HLP.out]
            have e := HLL.out _ rfl
            omega
          have O3 : Hid (∃ i : Nat, i ≤ 32 ∧ (.int .i64 0 : Value) = .int .i64 (i : Int) ∧ OB w.heap.size w (.slice ao3 (AB p ++ (PG.take k).flatten).length c3) (AB p ++ (PG.take k).flatten ++ (PG.getD k []).take i) wr) := ⟨0, by omega, rfl, by rw [List.take_zero, List.append_nil]; exact OO.out⟩
          clear OO ho3 hb3
          obtain ⟨LL, hLL⟩ : ∃ LL, AB p ++ (PG.take k).flatten = LL := ⟨_, rfl⟩
          have HLLE : Hid (AB p ++ (PG.take k).flatten = LL) := hLL
          rw [hLL] at O3 hL2 ⊢
          clear hLL
          generalize PG.getD k [] = X at *
          generalize hk32 : k * 32 = KK at *
          obtain ⟨wo2, hwo2⟩ : ∃ wo2, wo2 = wr := ⟨wr, rfl⟩
          subst hwo2
          go_wp2
          go_loopw [5, 9] (fun ov iv wr => ∃ i : Nat, i ≤ 32 ∧ iv = .int .i64 (i : Int) ∧ Hid (OB w.heap.size w ov (LL ++ X.take i) wr)) (fun _ iv _ => 32 - (intOf iv).toNat)
          case atStart => exact O3.out
          case round =>
            clear O3
            obtain ⟨i, hi, rfl, OO⟩ := hrel
            obtain ⟨ao4, c4, rfl, ho4, hb4⟩ := OO.out
            clear OO
            by_cases hil : i < 32
            · have y4 : (i : Int) < 32 := by omega
              have y5 : (0 : Int) ≤ (i : Int) := by omega
              have cb := HBY.out _ hb4 i hil
              have HE : Hid (X.take (i + 1) = X.take i ++ [X.getD i 0]) := take_one' X i (by rw [HX8.out]; exact hil)
              have hLi : (LL ++ X.take i).length ≤ 600032 := by rw [List.length_append, List.length_take]; omega
              have HLn : Hid ((LL ++ X.take (i + 1)).length = (LL ++ X.take i).length + 1) := by show _ = _; rw [HE.out, ← List.append_assoc, List.length_append]; rfl
              have HAP : Hid (LL ++ X.take (i + 1) = (LL ++ X.take i) ++ [X.getD i 0]) := by show _ = _; rw [HE.out, List.append_assoc]
              clear HE
              generalize LL ++ X.take i = LI at *
              generalize X.getD i 0 = y at *
              go_wp2_with (at_builtin; refine wpList_append_one rfl (.tmp 47) (.tmp 54) rfl w.heap.size _ w _ LI y _ rfl _ rfl rfl rfl ho4 hb4 LI.length rfl (by omega) ?_; intro g5 c5 w5 ho5 hb5)
              refine ⟨⟨i + 1, by omega, by go_num, ?_⟩, by simp [intOf]; omega⟩
              refine ⟨_, c5, by rw [HLn.out], ?_, hb5⟩
              rw [HLn.out, HAP.out]; exact ho5
            · obtain rfl : i = 32 := by omega
              have HE : Hid (X.take 32 = X) := List.take_of_length_le (by rw [HX8.out]; exact Nat.le_refl _)
              have O5 : Hid (OB w.heap.size w (.slice ao4 (LL ++ X.take 32).length c4) (AB p ++ (PG.take (k + 1)).flatten) wr) := by
                show OB _ _ _ _ _
                have e : LL ++ X.take 32 = AB p ++ (PG.take (k + 1)).flatten := by rw [HT.out, HE.out, ← List.append_assoc, HLLE.out]
                rw [← e]
                exact ⟨ao4, c4, rfl, ho4, hb4⟩
              clear ho4 hb4
              go_wp2
              exact ⟨⟨k + 1, by omega, by go_num, O5⟩, by simp [intOf]; omega⟩
        · obtain rfl : k = C := by omega
          have O5 : Hid (OB w.heap.size w (.slice ao3 (AB p ++ (PG.take k).flatten).length c3) (AB (p + 1)) wr) := by
            show OB _ _ _ _ _
            rw [HSH.out]
            have := OO.out
            rw [List.take_of_length_le (Nat.le_of_eq HLP.out)] at this ⊢
            exact this
          clear OO ho3 hb3
          go_wp2
          exact ⟨⟨p + 1, by omega, by go_num, O5⟩, by simp [intOf]; omega⟩
    · obtain rfl : p = M := by omega
      go_wp2
      go_ret
      exact ⟨_, rfl, ao, c, rfl, ho, hb⟩
end Go.Proofs.YtcpdanjbnijoiaaGreatDoor


/-! Layer 14, the document's answer: Read. -/
namespace Go.Proofs.YtcpdanjbnijoiaaGreatDoor
open Go.RowKit
set_option linter.unusedVariables false

theorem imgAt_short {b : List By} (h : b.length < 16) : imgAt b = none := by unfold imgAt; rw [if_pos h]
theorem imgAt_cut {b : List By} (h : ¬ b.length < 16) (h2 : b.length < 48 + num4 (b.drop 12)) : imgAt b = none := by unfold imgAt; rw [if_neg h, if_pos h2]
theorem imgAt_bad {b : List By} (h : ¬ b.length < 16) (h2 : ¬ b.length < 48 + num4 (b.drop 12)) {e a : Nat} (hp : parse (b.take (48 + num4 (b.drop 12))) = .error (e, a)) : imgAt b = none := by
  unfold imgAt; rw [if_neg h, if_neg h2, hp]
theorem imgAt_img {b : List By} (h : ¬ b.length < 16) (h2 : ¬ b.length < 48 + num4 (b.drop 12)) {q : Nat × Nat × Nat × List By × List By} (hp : parse (b.take (48 + num4 (b.drop 12))) = .ok q) : imgAt b = some (b.take (48 + num4 (b.drop 12))) := by
  unfold imgAt; rw [if_neg h, if_neg h2, hp]
theorem aread_of {s : RS} {a : Int} (h : s.areaE a = 0) {L : List By} (hL : s.abytes a s.c.area.toNat = L) : s.aread a = (match imgAt L with | some l => (l, 0) | none => ([], 5)) := by
  unfold RS.aread; rw [if_pos h, hL]
  cases imgAt L <;> rfl

set_option maxHeartbeats 1000000 in
set_option maxRecDepth 100000 in
theorem r14read_any (F : RF) (s : RS) (a : Int) (w : World) (h : RAt w F s) (hA : s.Ar) :
    Calls Tryz.prog 49 #[.pointer (some ⟨F.g, 0, none⟩), .int .i64 a] w fun e w' => ∃ ao c, e = .returned (.tuple #[.slice ao (s.aread a).1.length c, .int .i64 (s.aread a).2]) ∧ IsB w' ao (s.aread a).1 ∧ Below w.heap.size w w' := by
  have MY := r14may_any F s a w h
  by_cases h0 : s.areaE a = 0
  · obtain ⟨hg, ha⟩ := areaE_zero h0
    rw [h0] at MY
    have BY := r14bytes_any F s a ha w h hA
    have har := hA.area
    have hce := hA.cells
    have hLB : (s.abytes a s.c.area.toNat).length ≤ 524288 := by
      rw [abytes_len hA ha _ (Nat.le_refl _)]
      have : s.c.area.toNat * (32 * s.c.cells.toNat) ≤ 64 * (32 * 256) := Nat.mul_le_mul (by omega) (by omega)
      omega
    have HAR : Hid (∀ L, s.abytes a s.c.area.toNat = L → s.aread a = (match imgAt L with | some l => (l, 0) | none => ([], 5))) := fun L e => aread_of h0 e
    generalize hRR : s.aread a = R at *
    generalize hL : s.abytes a s.c.area.toNat = L at *
    replace HAR : Hid (R = (match imgAt L with | some l => (l, 0) | none => ([], 5))) := HAR.out L rfl
    clear hL hRR h hA h0
    by_cases hs : L.length < 16
    · have HE : Hid (R = ([], 5)) := by show _ = _; rw [HAR.out, imgAt_short hs]
      have i1 : (L.length : Int) < 16 := by omega
      clear HAR
      go_enter Tryz.func49, Tryz.ntmps49
      go_wp2_with fail
      refine MY.mono ?_
      rintro e w1 ⟨rfl, rfl⟩
      dsimp only
      go_wp2_with fail
      refine BY.mono ?_
      rintro e w2 ⟨v, rfl, ao, c, rfl, ho, hb⟩
      dsimp only
      go_wp2
      go_ret2
      exact ⟨none, 0, by rw [HE.out]; rfl, by rw [HE.out]; exact .inl rfl, hb⟩
    · have i1 : ¬ (L.length : Int) < 16 := by omega
      have z : ∀ i, (L.getD i 0).toNat < 256 := fun i => by have := (L.getD i 0).isLt; simpa using this
      have z0 := z 12; have z1 := z 13; have z2 := z 14; have z3 := z 15
      obtain ⟨X, hX⟩ : ∃ X, 48 + num4 (L.drop 12) = X := ⟨_, rfl⟩
      have HX : Hid (48 + num4 (L.drop 12) = X) := hX
      have hXi : 48 + ((L.getD 12 0).toNat : Int) + 256 * ((L.getD 13 0).toNat : Int) + 65536 * ((L.getD 14 0).toNat : Int) + 16777216 * ((L.getD 15 0).toNat : Int) = (X : Int) := by
        rw [num4_drop] at hX
        simp only [num4, List.getD_cons_zero, List.getD_cons_succ, Nat.reduceAdd] at hX
        omega
      have HC : Hid (∀ (W : World) ao c, Own w.heap.size W (.slice ao L.length c) L → ∃ g, ao = some ⟨g, 0, none⟩ ∧ ∀ i, i < L.length → W.cell? ⟨g, i, none⟩ = some (.int .u8 ((L.getD i 0).toNat : Int))) := fun W ao c ho => by
        obtain ⟨g, e, _⟩ := ho.at (by omega)
        subst e
        exact ⟨g, rfl, fun i hi => ho.cell i hi⟩
      have b12 : (12 : Int) < (L.length : Int) := by omega
      have b13 : (13 : Int) < (L.length : Int) := by omega
      have b14 : (14 : Int) < (L.length : Int) := by omega
      have b15 : (15 : Int) < (L.length : Int) := by omega
      clear z hX
      by_cases hcut : L.length < X
      · have HE : Hid (R = ([], 5)) := by show _ = _; rw [HAR.out, imgAt_cut hs (by rw [HX.out]; exact hcut)]
        have i2 : (L.length : Int) < (X : Int) := by omega
        clear HAR
        go_enter Tryz.func49, Tryz.ntmps49
        go_wp2_with fail
        refine MY.mono ?_
        rintro e w1 ⟨rfl, rfl⟩
        dsimp only
        go_wp2_with fail
        refine BY.mono ?_
        rintro e w2 ⟨v, rfl, ao, c, rfl, ho, hb⟩
        dsimp only
        obtain ⟨g, rfl, hcl⟩ := HC.out _ _ _ ho
        have x0 := hcl 12 (by omega); have x1 := hcl 13 (by omega); have x2 := hcl 14 (by omega); have x3 := hcl 15 (by omega)
        clear hcl
        generalize (L.getD 12 0).toNat = y0 at *
        generalize (L.getD 13 0).toNat = y1 at *
        generalize (L.getD 14 0).toNat = y2 at *
        generalize (L.getD 15 0).toNat = y3 at *
        go_wp2
        go_quiet (fail)
        go_wp2
        go_ret2
        exact ⟨none, 0, by rw [HE.out]; rfl, by rw [HE.out]; exact .inl rfl, Below_dr hb ⟨nq, rfl⟩⟩
      · have i2 : ¬ (L.length : Int) < (X : Int) := by omega
        have i3 : (0 : Int) ≤ (X : Int) := by omega
        have hXl : X ≤ L.length := by omega
        have HTL : Hid ((L.take X).length = X) := by show _ = _; rw [List.length_take]; omega
        have HIT : Hid (∀ (W : World) ao c, Own w.heap.size W (.slice ao L.length c) L → IsB W ao (L.take X) ∧ L.length ≤ c) := fun W ao c ho => ⟨isB_take (own_IsB ho) X, (own_isb ho).2.2.1⟩
        have HPW : Hid (∀ (W : World) g c e0 a0, IsB W (some ⟨g, 0, none⟩) (L.take X) → X ≤ c → parse (L.take X) = .error (e0, a0) → Calls Tryz.prog 67 #[.slice (some ⟨g, 0, none⟩) X c] W fun e w' => e = .returned (.tuple #[.agg zImg.toArray, .agg #[.int .i64 e0, .int .i64 a0]]) ∧ Below W.heap.size W w') := fun W g c e0 a0 hi hc hp => rparse_wrong (some ⟨g, 0, none⟩) X c (L.take X) HTL.out W hi hc e0 a0 hp
        have HPI : Hid (∀ (W : World) g c s k v p t, IsB W (some ⟨g, 0, none⟩) (L.take X) → X ≤ c → parse (L.take X) = .ok (s, k, v, p, t) → Calls Tryz.prog 67 #[.slice (some ⟨g, 0, none⟩) X c] W fun e w' => ∃ ao' c', e = .returned (.tuple #[.agg (imgC s k v (.slice ao' p.length c') t).toArray, .agg #[.int .i64 0, .int .i64 0]]) ∧ Own W.heap.size w' (.slice ao' p.length c') p ∧ Below W.heap.size W w') := fun W g c s k v p t hi hc hp => rparse_img (some ⟨g, 0, none⟩) X c (L.take X) HTL.out W hi hc s k v p t hp
        cases hpr : parse (L.take X) with
        | error ea =>
          obtain ⟨e0, a0⟩ := ea
          have HE : Hid (R = ([], 5)) := by show _ = _; rw [HAR.out, imgAt_bad hs (by rw [HX.out]; omega) (by rw [HX.out]; exact hpr)]
          have h4 : ¬ ((e0 : Int) == 0) = true := by
            have := (parse_wrong (show parse (L.take X) = .error (e0, a0) from hpr)).1
            simp; omega
          have h5 : ((e0 : Int) == 0) = false := by simpa using h4
          have HPR : Hid (parse (L.take X) = .error (e0, a0)) := hpr
          clear HAR HPI h4 hpr
          go_enter Tryz.func49, Tryz.ntmps49
          go_wp2_with fail
          refine MY.mono ?_
          rintro e w1 ⟨rfl, rfl⟩
          dsimp only
          go_wp2_with fail
          refine BY.mono ?_
          rintro e w2 ⟨v, rfl, ao, c, rfl, ho, hb⟩
          dsimp only
          obtain ⟨g, rfl, hcl⟩ := HC.out _ _ _ ho
          obtain ⟨ib, hcap⟩ := HIT.out _ _ _ ho
          have x0 := hcl 12 (by omega); have x1 := hcl 13 (by omega); have x2 := hcl 14 (by omega); have x3 := hcl 15 (by omega)
          have i4 : (X : Int) ≤ (c : Int) := by omega
          have HIB : Hid (IsB w2 (some ⟨g, 0, none⟩) (L.take X)) := ib
          have HBB : Hid (Below w1.heap.size w1 w2) := hb
          have hXc : X ≤ c := by omega
          clear hcl ho ib hb
          generalize (L.getD 12 0).toNat = y0 at *
          generalize (L.getD 13 0).toNat = y1 at *
          generalize (L.getD 14 0).toNat = y2 at *
          generalize (L.getD 15 0).toNat = y3 at *
          go_wp2
          go_quiet (fail)
          go_wp2_with fail
          refine (HPW.out (w2.drewN nq) g c e0 a0 HIB.out hXc HPR.out).mono ?_
          rintro e w3 ⟨rfl, hb3⟩
          dsimp only
          have B3 : Hid (Below w1.heap.size w1 w3) := (Below_dr HBB.out ⟨nq, rfl⟩).trans (hb3.mono HBB.out.size)
          clear hb3 x0 x1 x2 x3
          have rI := (Row.at w3 100 zImg _ _ rfl rfl).alloc (.cells #[.int .i64 0, .int .i64 0] 111)
          have rW : Row ((w3.alloc (.cells zImg.toArray 100)).alloc (.cells #[.int .i64 0, .int .i64 0] 111)) (w3.heap.size + 1) 111 [.int .i64 0, .int .i64 0] := Row.at _ _ _ _ _ (by simp) rfl
          have bA : Hid (Below w1.heap.size w1 ((w3.alloc (.cells zImg.toArray 100)).alloc (.cells #[.int .i64 0, .int .i64 0] 111))) := (B3.out.alloc B3.out.size _).alloc (by have := B3.out.size; simp; omega) _
          have hz3 : w1.heap.size ≤ w3.heap.size := B3.out.size
          go_wp2_with (first | (refine wpList_store_Row rfl 100 _ _ rfl w3.heap.size 100 0 zImg zImg rI (Nat.le_refl _) rfl rfl (by kernel_rfl) zImg_one ?_; intro w4 hr4 hs4) | (refine wpList_store_Row rfl 111 _ _ rfl (w3.heap.size + 1) 111 0 _ [.int .i64 e0, .int .i64 a0] (rW.but hs4 (by omega)) (Nat.le_refl _) rfl rfl (by kernel_rfl) (by simp [Value.oneCell']) ?_; intro w5 hr5 hs5; have c50 := (row_whole hr5 (by simp)).cell 0 (.int .i64 (e0 : Int)) rfl))
          go_ret2
          exact ⟨none, 0, by rw [HE.out]; rfl, by rw [HE.out]; exact .inl rfl, hs5.below (hs4.below bA.out (by omega)) (by omega)⟩
        | ok q =>
          obtain ⟨si, ki, vi, pi, ti⟩ := q
          have hIL : Hid (R = (L.take X, 0)) := by show _ = _; rw [HAR.out, imgAt_img hs (by rw [HX.out]; omega) (by rw [HX.out]; exact hpr), HX.out]
          have htl : ti.length = 32 := (parse_img (show parse (L.take X) = .ok (si, ki, vi, pi, ti) from hpr)).2.2.2.2.1
          have HPR : Hid (parse (L.take X) = .ok (si, ki, vi, pi, ti)) := hpr
          clear HAR HPW hpr
          go_enter Tryz.func49, Tryz.ntmps49
          go_wp2_with fail
          refine MY.mono ?_
          rintro e w1 ⟨rfl, rfl⟩
          dsimp only
          go_wp2_with fail
          refine BY.mono ?_
          rintro e w2 ⟨v, rfl, ao, c, rfl, ho, hb⟩
          dsimp only
          obtain ⟨g, rfl, hcl⟩ := HC.out _ _ _ ho
          obtain ⟨ib, hcap⟩ := HIT.out _ _ _ ho
          have x0 := hcl 12 (by omega); have x1 := hcl 13 (by omega); have x2 := hcl 14 (by omega); have x3 := hcl 15 (by omega)
          have i4 : (X : Int) ≤ (c : Int) := by omega
          have HIB : Hid (IsB w2 (some ⟨g, 0, none⟩) (L.take X)) := ib
          have HBB : Hid (Below w1.heap.size w1 w2) := hb
          have HGL : Hid (g < w2.heap.size) := (ho.lt).2
          have hXc : X ≤ c := by omega
          clear hcl ho ib hb
          generalize (L.getD 12 0).toNat = y0 at *
          generalize (L.getD 13 0).toNat = y1 at *
          generalize (L.getD 14 0).toNat = y2 at *
          generalize (L.getD 15 0).toNat = y3 at *
          go_wp2
          go_quiet (fail)
          go_wp2_with fail
          refine (HPI.out (w2.drewN nq) g c si ki vi pi ti HIB.out hXc HPR.out).mono ?_
          rintro e w3 ⟨ao3, c3, rfl, ho3, hb3⟩
          dsimp only
          have B3 : Hid (Below w1.heap.size w1 w3) := (Below_dr HBB.out ⟨nq, rfl⟩).trans (hb3.mono HBB.out.size)
          have IB3 : Hid (IsB w3 (some ⟨g, 0, none⟩) (L.take X)) := IsB.below (w := w2.drewN nq) HIB.out hb3 (Nat.le_refl _)
          have hil := imgC_len si ki vi (.slice ao3 pi.length c3) ti htl
          have h1 := imgC_one si ki vi ao3 pi.length c3 ti
          generalize imgC (si : Int) ki vi (.slice ao3 pi.length c3) ti = IM at *
          clear hb3 x0 x1 x2 x3 ho3
          have rI := (Row.at w3 100 zImg _ _ rfl rfl).alloc (.cells #[.int .i64 0, .int .i64 0] 111)
          have rW : Row ((w3.alloc (.cells zImg.toArray 100)).alloc (.cells #[.int .i64 0, .int .i64 0] 111)) (w3.heap.size + 1) 111 [.int .i64 0, .int .i64 0] := Row.at _ _ _ _ _ (by simp) rfl
          have b0 : Below w3.heap.size w3 ((w3.alloc (.cells zImg.toArray 100)).alloc (.cells #[.int .i64 0, .int .i64 0] 111)) := ((Below.refl _ _).alloc (Nat.le_refl _) _).alloc (by simp) _
          have HB0 : Hid (Below w3.heap.size w3 ((w3.alloc (.cells zImg.toArray 100)).alloc (.cells #[.int .i64 0, .int .i64 0] 111))) := b0
          clear b0
          go_wp2_with (first | (refine wpList_store_Row rfl 100 _ _ rfl w3.heap.size 100 0 zImg IM rI (by rw [hil]; exact Nat.le_refl _) rfl rfl (by rw [hil]; kernel_rfl) h1 ?_; intro w4 hr4 hs4) | (refine wpList_store_Row rfl 111 _ _ rfl (w3.heap.size + 1) 111 0 _ [.int .i64 0, .int .i64 0] (rW.but hs4 (by omega)) (Nat.le_refl _) rfl rfl (by kernel_rfl) (by simp [Value.oneCell']) ?_; intro w5 hr5 hs5; have c50 := (row_whole hr5 (by simp)).cell 0 (.int .i64 0) rfl))
          go_ret2
          have bE : Below w3.heap.size w3 w5 := hs5.below (hs4.below HB0.out (Nat.le_refl _)) (by omega)
          refine ⟨some ⟨g, 0, none⟩, c, by rw [hIL.out]; show _ = _; rw [HTL.out]; rfl, ?_, B3.out.trans (bE.mono B3.out.size)⟩
          rw [hIL.out]
          exact IB3.out.below bE (Nat.le_refl _)
  · have HE : Hid (s.aread a = ([], s.areaE a)) := by show _ = _; unfold RS.aread; rw [if_neg h0]
    have hq : (s.areaE a == 0) = false := by simpa using h0
    generalize s.aread a = R at *
    generalize s.areaE a = E at *
    go_enter Tryz.func49, Tryz.ntmps49
    go_wp2_with fail
    refine MY.mono ?_
    rintro e w1 ⟨rfl, rfl⟩
    dsimp only
    go_wp2
    go_ret2
    exact ⟨none, 0, by rw [HE.out]; rfl, by rw [HE.out]; exact .inl rfl, Below.refl _ _⟩
end Go.Proofs.YtcpdanjbnijoiaaGreatDoor
