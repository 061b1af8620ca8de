
import Derived.Test.YtgpnbiaghokjkaaDoorD21OnM
import Derived.Test.YtgpnbiaghokjkaaDoorD21P1
/-! Layer 21, the document's answer: blown. -/
namespace Go.Proofs.YtgpnbiaghokjkaaDoor
open Go.RowKit
set_option linter.unusedVariables false
set_option linter.unusedSimpArgs false
set_option maxRecDepth 100000

def lastI (l : List Nat) (d : Int) : Int := match l.getLast? with | some x => (x : Int) | none => d
theorem rise_app : ∀ (n : Nat) (l : List Nat) (x : Nat) (last : Int), riseB n (l ++ [x]) last = (riseB n l last && (decide (lastI l last < x) && decide (x < n)))
  | n, [], x, last => by
    rw [List.nil_append, riseB, riseB, riseB]
    show (decide (last < (x : Int)) && decide (x < n) && true) = (true && (decide (last < (x : Int)) && decide (x < n)))
    rw [Bool.and_true, Bool.true_and]
  | n, a :: l, x, last => by
    have e : lastI (a :: l) last = lastI l a := by
      unfold lastI
      cases l with
      | nil => rfl
      | cons b l => rw [List.getLast?_cons_cons]; cases hh : (b :: l).getLast? with
        | none => simp at hh
        | some y => rfl
    rw [List.cons_append, riseB, riseB, rise_app n l x a, e]
    simp only [Bool.and_assoc]
theorem rise_pre : ∀ (n : Nat) (a b : List Nat) (last : Int), riseB n (a ++ b) last = true → riseB n a last = true
  | n, [], b, last, _ => rfl
  | n, x :: a, b, last, h => by
    rw [List.cons_append, riseB] at h
    simp only [Bool.and_eq_true] at h
    rw [riseB, h.1.1, h.1.2, rise_pre n a b x h.2]; rfl
theorem marks_step (n : Nat) (l : List Nat) (x : Nat) (hx : x < n) : marks n (l ++ [x]) = (marks n l).set x true := by
  unfold marks
  apply List.ext_getElem (by simp)
  intro i h1 h2
  have hi : i < n := by simpa using h1
  rw [List.getElem_set]
  simp only [List.getElem_map, List.getElem_range]
  by_cases e : x = i
  · rw [if_pos e]; simp [e]
  · rw [if_neg e, decide_eq_decide.2]
    rw [List.mem_append, List.mem_singleton]
    exact ⟨fun h => h.resolve_right (fun h2 => e h2.symm), .inl⟩
theorem marks_nil (n : Nat) : marks n [] = List.replicate n false := by
  unfold marks
  apply List.ext_getElem (by simp)
  intro i h1 h2
  simp
theorem lastI_take (L : List Nat) (i : Nat) (hi : i ≤ L.length) : lastI (L.take i) (-1) = if 0 < i then ((L.getD (i - 1) 0 : Nat) : Int) else -1 := by
  unfold lastI
  by_cases h : 0 < i
  · rw [if_pos h, List.getLast?_eq_getElem?, List.length_take, Nat.min_eq_left hi, List.getElem?_take_of_lt (by omega), List.getElem?_eq_getElem (by omega), List.getD_eq_getElem?_getD, List.getElem?_eq_getElem (by omega)]; rfl
  · obtain rfl : i = 0 := by omega
    rfl

theorem wpList_make_bools {ops : Array Oper} {rest : List Oper} {o : Oper} {a : Act} {w : World} {Q : Exit → Act → World → Prop} (hg : o.guard = none) (l c : Operand) (hop : o.op = Op.makeSlice 27 l c)
    (kl kc : IntKind) (L C : Int) (n : Nat) (hl : a.eval l = .int kl L) (hc : a.eval c = .int kc C) (hL : L = (n : Int)) (hC : C = (n : Int)) (hn : n ≤ 281474976710656)
    (hK : ∀ w', Row w' w.heap.size 4 ((List.replicate n false).map Value.bool) → Below w.heap.size w w' → w'.heap.size = w.heap.size + 1 → wpList Tryd.prog ops Q rest (a.put o.dst (.slice (some ⟨w.heap.size, 0, none⟩) n n)) w') :
    wpList Tryd.prog ops Q (o :: rest) a w := by
  obtain ⟨i0, hi, hz0, hz1, hz2⟩ := info_parts el_bools.info
  refine wpList_plain hg fun K hK' => ?_
  subst hL
  subst hC
  have hrun := run_make (P := Tryd.prog) w 27 4 i0 (.bool false) Tryd.underlying27 hi hz0 kl kc (n : Int) (n : Int) (by omega) (by omega) (by rw [hz2]; omega) (by omega)
  unfold Oper.wp
  simp [execOp, hop, hl, hc, hrun, Result.andThen]
  refine hK' _ _ (hK _ ?_ ?_ ?_)
  · refine Row.at w 4 _ _ _ rfl ?_
    rw [hz1, Nat.mul_one]
    have : (madeCells #[Value.bool false] n).toList = (List.replicate n false).map Value.bool := by
      rw [toList_madeCells_one]; simp
    rw [← this]; rfl
  · exact (Below.refl _ _).alloc (Nat.le_refl _) _
  · simp

/-- What blown tells. -/
def BlP (N : Nat) (w : World) (n : Nat) (l : List By) (e : Ending) (w' : World) : Prop :=
  ((∃ g bl, blown? n l = some bl ∧ e = .returned (.tuple #[.slice (some ⟨g, 0, none⟩) n n, .bool true]) ∧ N ≤ g ∧ Row w' g 4 (bl.map Value.bool)) ∨ (blown? n l = none ∧ e = .returned (.tuple #[.slice none 0 0, .bool false]))) ∧ Below N w w'
set_option maxHeartbeats 8000000 in
theorem r21blown_any (c : Cfg) (hm : c.may = 0) (l : List By) (hl : l.length ≤ 2000000) (w : World) (NF : Nat) (hNF : c.slots * c.fuses + c.keys = (NF : Int)) :
    Calls Tryd.prog 31 #[.agg c.vals.toArray, .string (strOf l)] w (BlP w.heap.size w NF l) := by
  obtain ⟨m1, m2, m3, m4, m5, m6, m7⟩ := may_all hm
  have hprod : 1 ≤ c.slots * c.fuses ∧ c.slots * c.fuses ≤ 512 := ⟨by
    have := Int.mul_le_mul m1.1 m3.1 (by omega) (by omega); omega, by
    have := Int.mul_le_mul m1.2 m3.2 (by omega) (by omega); omega⟩
  have hN1 : 1 ≤ NF ∧ NF ≤ 1000 := by omega
  have r0 := Row.at w 24 c.vals _ _ rfl rfl
  have hb0 : Below w.heap.size w (w.alloc (.cells c.vals.toArray 24)) := (Below.refl _ _).alloc (Nat.le_refl _) _
  have hlv : c.vals.length = 7 := rfl
  have HVS : Hid (∀ W, Calls Tryd.prog 30 #[.string (strOf l), .string { data := #[98, 108, 111, 119, 110] }] W (ValP W.heap.size W l wBlown)) := fun W => r21values_any l wBlown hl W
  have HFS : Hid (∀ W, Calls Tryd.prog 42 #[.agg c.vals.toArray] W fun e w' => e = .returned (.int .i64 (NF : Int)) ∧ Below W.heap.size W w') := fun W => by
    have := r21fuses_any c hprod m5.1 m5.2 W
    rw [hNF] at this
    exact this
  have HBS : Hid (∀ L, values? l wBlown = some L → blown? NF l = if riseB NF L (-1) then some (marks NF L) else none) := fun L h => by
    show _ = _
    unfold blown?; rw [h]
  have HBN : Hid (values? l wBlown = none → blown? NF l = none) := fun h => by
    show _ = _
    unfold blown?; rw [h]
  have HLL : Hid (∀ L, values? l wBlown = some L → L.length ≤ 2000001) := fun L h => by
    unfold values? at h
    have h1 := words_len l
    split at h
    · rename_i a b hw
      rw [hw] at h1
      split at h
      · have := vals_len b L h
        rw [List.length_cons] at h1
        omega
      · cases h
    · cases h
  clear hm m1 m2 m3 m4 m5 m6 m7 hprod hNF
  generalize c.vals = CV at *
  have HR0 : Hid (Row (w.alloc (.cells CV.toArray 24)) w.heap.size 24 CV) := r0
  clear r0
  go_enter Tryd.func31, Tryd.ntmps31
  go_wp2_with fail
  generalize hW0 : w.alloc (.cells CV.toArray 24) = W0 at *
  refine (HVS.out _).mono ?_
  rintro e w1 ⟨hv, hb1⟩
  have HB1 : Hid (Below w.heap.size w w1) := hb0.trans (hb1.mono hb0.size)
  have HR1 : Hid (Row w1 w.heap.size 24 CV) := HR0.out.below hb1 HR0.out.lt
  rcases hv with ⟨v, L, hvs, rfl, ho⟩ | ⟨hvs, rfl⟩
  · dsimp only
    have HBL := HBS.out L hvs
    have hLn := HLL.out L hvs
    obtain ⟨ao, cv, hve⟩ := ho.form
    subst hve
    obtain ⟨n, hn⟩ : ∃ n, L.length = n := ⟨_, rfl⟩
    have HN : Hid (L.length = n) := hn
    have HO1 : Hid (OwnE 3 W0.heap.size w1 (.slice ao n cv) (L.map nI)) := by
      have := ho
      rw [List.length_map, hn] at this
      exact this
    rw [List.length_map, hn]
    rw [hn] at hLn
    clear ho hb1 HBS HBN HLL HVS HR0 hb0 hvs hn
    have r1 := HR1.out
    go_wp2_with (first | (refine wpList_load_Row rfl 24 _ rfl _ _ CV r1 rfl _ Tryd.underlying24 rfl (by rw [hlv]; kernel_rfl) ?_) | (refine (HFS.out _).mono ?_; rintro e w2 ⟨rfl, hb2⟩) | (refine wpList_make_bools rfl _ _ rfl .i64 .i64 _ _ NF rfl rfl rfl rfl (by omega) ?_; intro w3 hr3 hb3 hz3))
    have HB3 : Hid (Below w.heap.size w w3) := (HB1.out.trans (hb2.mono HB1.out.size)).trans (hb3.mono (Nat.le_trans HB1.out.size hb2.size))
    have HR3 : Hid (Row w3 w2.heap.size 4 ((marks NF (L.take 0)).map Value.bool)) := by
      show Row _ _ _ _
      rw [List.take_zero, marks_nil]; exact hr3
    have HC3 : Hid (∀ j, j < n → ∃ g, ao = some ⟨g, 0, none⟩ ∧ g < w2.heap.size ∧ w3.cell? ⟨g, j, none⟩ = some (.int .i64 ((L.getD j 0 : Nat) : Int))) := fun j hj => by
      obtain ⟨g, c', e', hg', hl', cc'⟩ := HO1.out.at j (nI (L.getD j 0)) (by
        rw [List.getElem?_map, List.getD_eq_getElem?_getD, List.getElem?_eq_getElem (by rw [HN.out]; exact hj)]; rfl)
      injection e' with e1 _ _
      refine ⟨g, e1, Nat.lt_of_lt_of_le hl' hb2.size, ?_⟩
      have h1 := (hb2.cell (p := ⟨g, j, none⟩) hl').trans cc'
      exact (hb3.cell (p := ⟨g, j, none⟩) (Nat.lt_of_lt_of_le hl' hb2.size)).trans h1
    have hD : w.heap.size ≤ w2.heap.size := Nat.le_trans HB1.out.size hb2.size
    clear hr3 hb3 hz3 hb2 HO1 HR1 HB1 r1 HFS
    generalize w2.heap.size = D at *
    go_loopw [9] (fun iv wr => ∃ i : Nat, i ≤ n ∧ iv = .int .i64 i ∧ Hid (riseB NF (L.take i) (-1) = true) ∧ Hid (Row wr D 4 ((marks NF (L.take i)).map Value.bool)) ∧ Hid (∀ j, j < n → ∃ g, ao = some ⟨g, 0, none⟩ ∧ g < D ∧ wr.cell? ⟨g, j, none⟩ = some (.int .i64 ((L.getD j 0 : Nat) : Int))) ∧ Hid (Below w.heap.size w wr)) (fun iv _ => n - (intOf iv).toNat)
    case atStart => exact ⟨0, by omega, rfl, rfl, HR3, HC3, HB3⟩
    case round =>
      clear HR3 HC3 HB3
      obtain ⟨i, hi, rfl, HRI, HRW, HCL, HB⟩ := hrel
      by_cases hlt : i < n
      · have y0 : (0 : Int) ≤ (i : Int) := by omega
        have y1 : (i : Int) < (n : Int) := by omega
        obtain ⟨g, hao, hgD, ci⟩ := HCL.out i hlt
        subst hao
        have htk : L.take (i + 1) = L.take i ++ [L.getD i 0] := take_snoc L i 0 (by rw [HN.out]; exact hlt)
        have hra := rise_app NF (L.take i) (L.getD i 0) (-1)
        rw [← htk, HRI.out, Bool.true_and, lastI_take L i (by rw [HN.out]; omega)] at hra
        have HNO : Hid (riseB NF (L.take (i + 1)) (-1) = false → blown? NF l = none) := fun h => by
          rw [HBL]
          have : ¬ riseB NF L (-1) = true := fun h2 => by
            have h3 := rise_pre NF (L.take (i + 1)) (L.drop (i + 1)) (-1) (by rw [List.take_append_drop]; exact h2)
            rw [h] at h3
            cases h3
          rw [if_neg this]
        by_cases h1 : NF ≤ L.getD i 0
        · have g1 : decide (((L.getD i 0 : Nat) : Int) ≥ (NF : Int)) = true := decide_eq_true (by omega)
          have g1' : decide (NF ≤ L.getD i 0) = true := decide_eq_true (by omega)
          have HF : Hid (blown? NF l = none) := HNO.out (by rw [hra, decide_eq_false (show ¬ L.getD i 0 < NF by omega), Bool.and_false])
          clear hra htk HNO HRI HRW
          generalize L.getD i 0 = X at *
          go_wp2
          go_quiet (fail)
          go_wp2
          go_ret2
          exact ⟨.inr ⟨HF.out, rfl⟩, Below_dr HB.out ⟨nq, rfl⟩⟩
        · have g1 : decide (((L.getD i 0 : Nat) : Int) ≥ (NF : Int)) = false := decide_eq_false (by omega)
          have g1' : decide (NF ≤ L.getD i 0) = false := decide_eq_false (by omega)
          have hXN : L.getD i 0 < NF := by omega
          have HMK : Hid (marks NF (L.take (i + 1)) = (marks NF (L.take i)).set (L.getD i 0) true) := by
            show _ = _
            rw [htk]; exact marks_step NF _ _ hXN
          rw [decide_eq_true hXN, Bool.and_true] at hra
          have HST : Hid (∀ q, Row ((wr.drewN q).setCell ⟨D, L.getD i 0, none⟩ (.bool true)) D 4 ((marks NF (L.take (i + 1))).map Value.bool) ∧ (∀ j, j < n → ∃ g', (some ⟨g, 0, none⟩ : Option Addr) = some ⟨g', 0, none⟩ ∧ g' < D ∧ ((wr.drewN q).setCell ⟨D, L.getD i 0, none⟩ (.bool true)).cell? ⟨g', j, none⟩ = some (.int .i64 ((L.getD j 0 : Nat) : Int))) ∧ Below w.heap.size w ((wr.drewN q).setCell ⟨D, L.getD i 0, none⟩ (.bool true))) := fun q => by
            have sb := SameBut.setCell D (L.getD i 0) (.bool true) (wr.drewN q)
            refine ⟨?_, fun j hj => ?_, sb.below (Below_dr HB.out ⟨q, rfl⟩) hD⟩
            · have r := (HRW.out.dr ⟨q, rfl⟩).set (L.getD i 0) (.bool true)
              rw [HMK.out, List.map_set]
              exact r
            · obtain ⟨g', e', h1', h2'⟩ := HCL.out j hj
              refine ⟨g', e', h1', ?_⟩
              exact (World.cell?_of_block (sb.block g' (by omega))).trans h2'
          have hmk : ∀ X, X < NF → ((marks NF (L.take i)).map Value.bool)[X]? = some (.bool ((marks NF (L.take i)).getD X false)) := fun X hX => by
            rw [List.getElem?_map, List.getElem?_eq_getElem (by rw [marks_len]; exact hX), List.getD_eq_getElem?_getD, List.getElem?_eq_getElem (by rw [marks_len]; exact hX)]; rfl
          have cD := HRW.out.cell (L.getD i 0) _ (hmk _ hXN)
          clear hmk
          have fD := HRW.out.frozen (L.getD i 0)
          have x0 : (0 : Int) ≤ ((L.getD i 0 : Nat) : Int) := by omega
          have x1 : ((L.getD i 0 : Nat) : Int) < (NF : Int) := by omega
          by_cases hi0 : 0 < i
          · rw [if_pos hi0] at hra
            obtain ⟨g2, e2, _, cp⟩ := HCL.out (i - 1) (by omega)
            injection e2 with e2
            injection e2 with e2 _
            subst e2
            have wi : IntKind.i64.wrap ((i : Int) - 1) = ((i - 1 : Nat) : Int) := by rw [i64_in _ (by omega) (by omega)]; omega
            have z0 : (0 : Int) ≤ ((i - 1 : Nat) : Int) := by omega
            have z1 : ((i - 1 : Nat) : Int) < (n : Int) := by omega
            have p0 : decide ((i : Int) > 0) = true := decide_eq_true (by omega)
            have p1 : decide ((0 : Int) < (i : Int)) = true := decide_eq_true (by omega)
            have p2 : decide (0 < i) = true := decide_eq_true (by omega)
            by_cases h2 : L.getD i 0 ≤ L.getD (i - 1) 0
            · have g2 : decide (L.getD i 0 ≤ L.getD (i - 1) 0) = true := decide_eq_true (by omega)
              have HF : Hid (blown? NF l = none) := HNO.out (by rw [hra]; exact decide_eq_false (by omega))
              clear hra htk HNO HRI HRW HMK HST cD fD h1 h2 hXN
              generalize L.getD (i - 1) 0 = Y at *
              generalize L.getD i 0 = X at *
              generalize i - 1 = J at *
              go_wp2
              go_quiet (fail)
              go_wp2
              go_ret2
              exact ⟨.inr ⟨HF.out, rfl⟩, Below_dr HB.out ⟨nq, rfl⟩⟩
            · have g2 : decide (L.getD i 0 ≤ L.getD (i - 1) 0) = false := decide_eq_false (by omega)
              have HR2 : Hid (riseB NF (L.take (i + 1)) (-1) = true) := by rw [hra]; exact decide_eq_true (by omega)
              clear hra htk HNO HRI HRW HMK h1 h2 hXN HB
              generalize (marks NF (L.take i)).getD (L.getD i 0) false = BV at *
              generalize L.getD (i - 1) 0 = Y at *
              obtain ⟨X, hX⟩ : ∃ X, L.getD i 0 = X := ⟨_, rfl⟩
              rw [hX] at g1 g1' g2 HST cD fD x0 x1 ci
              clear hX
              generalize i - 1 = J at *
              go_wp2
              go_quiet (fail)
              go_wp2
              obtain ⟨s1, s2, s3⟩ := HST.out nq
              exact ⟨⟨i + 1, by omega, by go_num, HR2, s1, s2, s3⟩, by simp [intOf]; omega⟩
          · obtain rfl : i = 0 := by omega
            have p0 : decide (((0 : Nat) : Int) > 0) = false := decide_eq_false (by omega)
            have p1 : decide ((0 : Int) < ((0 : Nat) : Int)) = false := decide_eq_false (by omega)
            rw [if_neg (by omega)] at hra
            have HR2 : Hid (riseB NF (L.take (0 + 1)) (-1) = true) := by rw [hra]; exact decide_eq_true (by omega)
            clear hra htk HNO HRI HRW HMK h1 hXN HB hi0
            generalize (marks NF (L.take 0)).getD (L.getD 0 0) false = BV at *
            obtain ⟨X, hX⟩ : ∃ X, L.getD 0 0 = X := ⟨_, rfl⟩
            rw [hX] at g1 g1' HST cD fD x0 x1 ci
            clear hX
            go_wp2
            go_quiet (fail)
            go_wp2
            obtain ⟨s1, s2, s3⟩ := HST.out nq
            exact ⟨⟨0 + 1, by omega, by go_num, HR2, s1, s2, s3⟩, by simp [intOf]; omega⟩
      · obtain rfl : i = n := by omega
        have e : L.take i = L := List.take_of_length_le (by rw [HN.out]; exact Nat.le_refl _)
        have HF : Hid (blown? NF l = some (marks NF L)) := by
          show _ = _
          rw [HBL]
          have := HRI.out
          rw [e] at this
          rw [this]; rfl
        have HRF : Hid (Row wr D 4 ((marks NF L).map Value.bool)) := by have := HRW.out; rw [e] at this; exact this
        clear HRI HRW e
        go_wp2
        go_ret2
        exact ⟨.inl ⟨D, marks NF L, HF.out, rfl, hD, HRF.out⟩, HB.out⟩
  · dsimp only
    have HF := HBN.out hvs
    have HFH : Hid (blown? NF l = none) := HF
    clear HF hvs
    go_wp2
    go_ret2
    exact ⟨.inr ⟨HFH.out, rfl⟩, HB1.out⟩
end Go.Proofs.YtgpnbiaghokjkaaDoor
