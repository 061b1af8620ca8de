import Derived.Test.YtgpnbiaghokjkaaDoorD21OnM
import Derived.Test.YtgpnbiaghokjkaaDoorD21Print
import Derived.Test.YtgpnbiaghokjkaaDoorD21On
import Derived.Test.YtgpnbiaghokjkaaDoorD21Math

/-! Layer 21, the document's answer: blown. -/
namespace Go.Proofs.YtgpnbiaghokjkaaDoor
open Go.RowKit
set_option linter.unusedVariables false
set_option linter.unusedSimpArgs false
set_option maxRecDepth 100000

def lastI (l : List Nat) (d : Int) : Int := match l.getLast? with | some x => (x : Int) | none => d
theorem rise_app : ∀ (n : Nat) (l : List Nat) (x : Nat) (last : Int), riseB n (l ++ [x]) last = (riseB n l last && (decide (lastI l last < x) && decide (x < n)))
  | n, [], x, last => by
    rw [List.nil_append, riseB, riseB, riseB]
    show (decide (last < (x : Int)) && decide (x < n) && true) = (true && (decide (last < (x : Int)) && decide (x < n)))
    rw [Bool.and_true, Bool.true_and]
  | n, a :: l, x, last => by
    have e : lastI (a :: l) last = lastI l a := by
      unfold lastI
      cases l with
      | nil => rfl
      | cons b l => rw [List.getLast?_cons_cons]; cases hh : (b :: l).getLast? with
        | none => simp at hh
        | some y => rfl
    rw [List.cons_append, riseB, riseB, rise_app n l x a, e]
    simp only [Bool.and_assoc]
theorem rise_pre : ∀ (n : Nat) (a b : List Nat) (last : Int), riseB n (a ++ b) last = true → riseB n a last = true
  | n, [], b, last, _ => rfl
  | n, x :: a, b, last, h => by
    rw [List.cons_append, riseB] at h
    simp only [Bool.and_eq_true] at h
    rw [riseB, h.1.1, h.1.2, rise_pre n a b x h.2]; rfl
theorem marks_step (n : Nat) (l : List Nat) (x : Nat) (hx : x < n) : marks n (l ++ [x]) = (marks n l).set x true := by
  unfold marks
  apply List.ext_getElem (by simp)
  intro i h1 h2
  have hi : i < n := by simpa using h1
  rw [List.getElem_set]
  simp only [List.getElem_map, List.getElem_range]
  by_cases e : x = i
  · rw [if_pos e]; simp [e]
  · rw [if_neg e, decide_eq_decide.2]
    rw [List.mem_append, List.mem_singleton]
    exact ⟨fun h => h.resolve_right (fun h2 => e h2.symm), .inl⟩
theorem marks_nil (n : Nat) : marks n [] = List.replicate n false := by
  unfold marks
  apply List.ext_getElem (by simp)
  intro i h1 h2
  simp
theorem lastI_take (L : List Nat) (i : Nat) (hi : i ≤ L.length) : lastI (L.take i) (-1) = if 0 < i then ((L.getD (i - 1) 0 : Nat) : Int) else -1 := by
  unfold lastI
  by_cases h : 0 < i
  · rw [if_pos h, List.getLast?_eq_getElem?, List.length_take, Nat.min_eq_left hi, List.getElem?_take_of_lt (by omega), List.getElem?_eq_getElem (by omega), List.getD_eq_getElem?_getD, List.getElem?_eq_getElem (by omega)]; rfl
  · obtain rfl : i = 0 := by omega
    rfl

theorem wpList_make_bools {ops : Array Oper} {rest : List Oper} {o : Oper} {a : Act} {w : World} {Q : Exit → Act → World → Prop} (hg : o.guard = none) (l c : Operand) (hop : o.op = Op.makeSlice 27 l c)
    (kl kc : IntKind) (L C : Int) (n : Nat) (hl : a.eval l = .int kl L) (hc : a.eval c = .int kc C) (hL : L = (n : Int)) (hC : C = (n : Int)) (hn : n ≤ 281474976710656)
    (hK : ∀ w', Row w' w.heap.size 4 ((List.replicate n false).map Value.bool) → Below w.heap.size w w' → w'.heap.size = w.heap.size + 1 → wpList Tryd.prog ops Q rest (a.put o.dst (.slice (some ⟨w.heap.size, 0, none⟩) n n)) w') :
    wpList Tryd.prog ops Q (o :: rest) a w := by
  obtain ⟨i0, hi, hz0, hz1, hz2⟩ := info_parts el_bools.info
  refine wpList_plain hg fun K hK' => ?_
  subst hL
  subst hC
  have hrun := run_make (P := Tryd.prog) w 27 4 i0 (.bool false) Tryd.underlying27 hi hz0 kl kc (n : Int) (n : Int) (by omega) (by omega) (by rw [hz2]; omega) (by omega)
  unfold Oper.wp
  simp [execOp, hop, hl, hc, hrun, Result.andThen]
  refine hK' _ _ (hK _ ?_ ?_ ?_)
  · refine Row.at w 4 _ _ _ rfl ?_
    rw [hz1, Nat.mul_one]
    have : (madeCells #[Value.bool false] n).toList = (List.replicate n false).map Value.bool := by
      rw [toList_madeCells_one]; simp
    rw [← this]; rfl
  · exact (Below.refl _ _).alloc (Nat.le_refl _) _
  · simp

/-- What blown tells. -/
def BlP (N : Nat) (w : World) (n : Nat) (l : List By) (e : Ending) (w' : World) : Prop :=
  ((∃ g bl, blown? n l = some bl ∧ e = .returned (.tuple #[.slice (some ⟨g, 0, none⟩) n n, .bool true]) ∧ N ≤ g ∧ Row w' g 4 (bl.map Value.bool)) ∨ (blown? n l = none ∧ e = .returned (.tuple #[.slice none 0 0, .bool false]))) ∧ Below N w w'
set_option maxHeartbeats 8000000 in
theorem r21blown_any (c : Cfg) (hm : c.may = 0) (l : List By) (hl : l.length ≤ 2000000) (w : World) (NF : Nat) (hNF : c.slots * c.fuses + c.keys = (NF : Int)) :
    Calls Tryd.prog 31 #[.agg c.vals.toArray, .string (strOf l)] w (BlP w.heap.size w NF l) := by
  obtain ⟨m1, m2, m3, m4, m5, m6, m7⟩ := may_all hm
  have hprod : 1 ≤ c.slots * c.fuses ∧ c.slots * c.fuses ≤ 512 := ⟨by
    have := Int.mul_le_mul m1.1 m3.1 (by omega) (by omega); omega, by
    have := Int.mul_le_mul m1.2 m3.2 (by omega) (by omega); omega⟩
  have hN1 : 1 ≤ NF ∧ NF ≤ 1000 := by omega
  have r0 := Row.at w 24 c.vals _ _ rfl rfl
  have hb0 : Below w.heap.size w (w.alloc (.cells c.vals.toArray 24)) := (Below.refl _ _).alloc (Nat.le_refl _) _
  have hlv : c.vals.length = 7 := rfl
  have HVS : Hid (∀ W, Calls Tryd.prog 30 #[.string (strOf l), .string { data := #[98, 108, 111, 119, 110] }] W (ValP W.heap.size W l wBlown)) := fun W => r21values_any l wBlown hl W
  have HFS : Hid (∀ W, Calls Tryd.prog 42 #[.agg c.vals.toArray] W fun e w' => e = .returned (.int .i64 (NF : Int)) ∧ Below W.heap.size W w') := fun W => by
    have := r21fuses_any c hprod m5.1 m5.2 W
    rw [hNF] at this
    exact this
  have HBS : Hid (∀ L, values? l wBlown = some L → blown? NF l = if riseB NF L (-1) then some (marks NF L) else none) := fun L h => by
    show _ = _
    unfold blown?; rw [h]
  have HBN : Hid (values? l wBlown = none → blown? NF l = none) := fun h => by
    show _ = _
    unfold blown?; rw [h]
  have HLL : Hid (∀ L, values? l wBlown = some L → L.length ≤ 2000001) := fun L h => by
    unfold values? at h
    have h1 := words_len l
    split at h
    · rename_i a b hw
      rw [hw] at h1
      split at h
      · have := vals_len b L h
        rw [List.length_cons] at h1
        omega
      · cases h
    · cases h
  clear hm m1 m2 m3 m4 m5 m6 m7 hprod hNF
  generalize c.vals = CV at *
  have HR0 : Hid (Row (w.alloc (.cells CV.toArray 24)) w.heap.size 24 CV) := r0
  clear r0
  go_enter Tryd.func31, Tryd.ntmps31
  go_wp2_with fail
  generalize hW0 : w.alloc (.cells CV.toArray 24) = W0 at *
  refine (HVS.out _).mono ?_
  rintro e w1 ⟨hv, hb1⟩
  have HB1 : Hid (Below w.heap.size w w1) := hb0.trans (hb1.mono hb0.size)
  have HR1 : Hid (Row w1 w.heap.size 24 CV) := HR0.out.below hb1 HR0.out.lt
  rcases hv with ⟨v, L, hvs, rfl, ho⟩ | ⟨hvs, rfl⟩
  · dsimp only
    have HBL := HBS.out L hvs
    have hLn := HLL.out L hvs
    obtain ⟨ao, cv, hve⟩ := ho.form
    subst hve
    obtain ⟨n, hn⟩ : ∃ n, L.length = n := ⟨_, rfl⟩
    have HN : Hid (L.length = n) := hn
    have HO1 : Hid (OwnE 3 W0.heap.size w1 (.slice ao n cv) (L.map nI)) := by
      have := ho
      rw [List.length_map, hn] at this
      exact this
    rw [List.length_map, hn]
    rw [hn] at hLn
    clear ho hb1 HBS HBN HLL HVS HR0 hb0 hvs hn
    have r1 := HR1.out
    go_wp2_with (first | (refine wpList_load_Row rfl 24 _ rfl _ _ CV r1 rfl _ Tryd.underlying24 rfl (by rw [hlv]; kernel_rfl) ?_) | (refine (HFS.out _).mono ?_; rintro e w2 ⟨rfl, hb2⟩) | (refine wpList_make_bools rfl _ _ rfl .i64 .i64 _ _ NF rfl rfl rfl rfl (by omega) ?_; intro w3 hr3 hb3 hz3))
    have HB3 : Hid (Below w.heap.size w w3) := (HB1.out.trans (hb2.mono HB1.out.size)).trans (hb3.mono (Nat.le_trans HB1.out.size hb2.size))
    have HR3 : Hid (Row w3 w2.heap.size 4 ((marks NF (L.take 0)).map Value.bool)) := by
      show Row _ _ _ _
      rw [List.take_zero, marks_nil]; exact hr3
    have HC3 : Hid (∀ j, j < n → ∃ g, ao = some ⟨g, 0, none⟩ ∧ g < w2.heap.size ∧ w3.cell? ⟨g, j, none⟩ = some (.int .i64 ((L.getD j 0 : Nat) : Int))) := fun j hj => by
      obtain ⟨g, c', e', hg', hl', cc'⟩ := HO1.out.at j (nI (L.getD j 0)) (by
        rw [List.getElem?_map, List.getD_eq_getElem?_getD, List.getElem?_eq_getElem (by rw [HN.out]; exact hj)]; rfl)
      injection e' with e1 _ _
      refine ⟨g, e1, Nat.lt_of_lt_of_le hl' hb2.size, ?_⟩
      have h1 := (hb2.cell (p := ⟨g, j, none⟩) hl').trans cc'
      exact (hb3.cell (p := ⟨g, j, none⟩) (Nat.lt_of_lt_of_le hl' hb2.size)).trans h1
    have hD : w.heap.size ≤ w2.heap.size := Nat.le_trans HB1.out.size hb2.size
    clear hr3 hb3 hz3 hb2 HO1 HR1 HB1 r1 HFS
    generalize w2.heap.size = D at *
    go_loopw [9] (fun iv wr => ∃ i : Nat, i ≤ n ∧ iv = .int .i64 i ∧ Hid (riseB NF (L.take i) (-1) = true) ∧ Hid (Row wr D 4 ((marks NF (L.take i)).map Value.bool)) ∧ Hid (∀ j, j < n → ∃ g, ao = some ⟨g, 0, none⟩ ∧ g < D ∧ wr.cell? ⟨g, j, none⟩ = some (.int .i64 ((L.getD j 0 : Nat) : Int))) ∧ Hid (Below w.heap.size w wr)) (fun iv _ => n - (intOf iv).toNat)
    case atStart => exact ⟨0, by omega, rfl, rfl, HR3, HC3, HB3⟩
    case round =>
      clear HR3 HC3 HB3
      obtain ⟨i, hi, rfl, HRI, HRW, HCL, HB⟩ := hrel
      by_cases hlt : i < n
      · have y0 : (0 : Int) ≤ (i : Int) := by omega
        have y1 : (i : Int) < (n : Int) := by omega
        obtain ⟨g, hao, hgD, ci⟩ := HCL.out i hlt
        subst hao
        have htk : L.take (i + 1) = L.take i ++ [L.getD i 0] := take_snoc L i 0 (by rw [HN.out]; exact hlt)
        have hra := rise_app NF (L.take i) (L.getD i 0) (-1)
        rw [← htk, HRI.out, Bool.true_and, lastI_take L i (by rw [HN.out]; omega)] at hra
        have HNO : Hid (riseB NF (L.take (i + 1)) (-1) = false → blown? NF l = none) := fun h => by
          rw [HBL]
          have : ¬ riseB NF L (-1) = true := fun h2 => by
            have h3 := rise_pre NF (L.take (i + 1)) (L.drop (i + 1)) (-1) (by rw [List.take_append_drop]; exact h2)
            rw [h] at h3
            cases h3
          rw [if_neg this]
        by_cases h1 : NF ≤ L.getD i 0
        · have g1 : decide (((L.getD i 0 : Nat) : Int) ≥ (NF : Int)) = true := decide_eq_true (by omega)
          have g1' : decide (NF ≤ L.getD i 0) = true := decide_eq_true (by omega)
          have HF : Hid (blown? NF l = none) := HNO.out (by rw [hra, decide_eq_false (show ¬ L.getD i 0 < NF by omega), Bool.and_false])
          clear hra htk HNO HRI HRW
          generalize L.getD i 0 = X at *
          go_wp2
          go_quiet (fail)
          go_wp2
          go_ret2
          exact ⟨.inr ⟨HF.out, rfl⟩, Below_dr HB.out ⟨nq, rfl⟩⟩
        · have g1 : decide (((L.getD i 0 : Nat) : Int) ≥ (NF : Int)) = false := decide_eq_false (by omega)
          have g1' : decide (NF ≤ L.getD i 0) = false := decide_eq_false (by omega)
          have hXN : L.getD i 0 < NF := by omega
          have HMK : Hid (marks NF (L.take (i + 1)) = (marks NF (L.take i)).set (L.getD i 0) true) := by
            show _ = _
            rw [htk]; exact marks_step NF _ _ hXN
          rw [decide_eq_true hXN, Bool.and_true] at hra
          have HST : Hid (∀ q, Row ((wr.drewN q).setCell ⟨D, L.getD i 0, none⟩ (.bool true)) D 4 ((marks NF (L.take (i + 1))).map Value.bool) ∧ (∀ j, j < n → ∃ g', (some ⟨g, 0, none⟩ : Option Addr) = some ⟨g', 0, none⟩ ∧ g' < D ∧ ((wr.drewN q).setCell ⟨D, L.getD i 0, none⟩ (.bool true)).cell? ⟨g', j, none⟩ = some (.int .i64 ((L.getD j 0 : Nat) : Int))) ∧ Below w.heap.size w ((wr.drewN q).setCell ⟨D, L.getD i 0, none⟩ (.bool true))) := fun q => by
            have sb := SameBut.setCell D (L.getD i 0) (.bool true) (wr.drewN q)
            refine ⟨?_, fun j hj => ?_, sb.below (Below_dr HB.out ⟨q, rfl⟩) hD⟩
            · have r := (HRW.out.dr ⟨q, rfl⟩).set (L.getD i 0) (.bool true)
              rw [HMK.out, List.map_set]
              exact r
            · obtain ⟨g', e', h1', h2'⟩ := HCL.out j hj
              refine ⟨g', e', h1', ?_⟩
              exact (World.cell?_of_block (sb.block g' (by omega))).trans h2'
          have hmk : ∀ X, X < NF → ((marks NF (L.take i)).map Value.bool)[X]? = some (.bool ((marks NF (L.take i)).getD X false)) := fun X hX => by
            rw [List.getElem?_map, List.getElem?_eq_getElem (by rw [marks_len]; exact hX), List.getD_eq_getElem?_getD, List.getElem?_eq_getElem (by rw [marks_len]; exact hX)]; rfl
          have cD := HRW.out.cell (L.getD i 0) _ (hmk _ hXN)
          clear hmk
          have fD := HRW.out.frozen (L.getD i 0)
          have x0 : (0 : Int) ≤ ((L.getD i 0 : Nat) : Int) := by omega
          have x1 : ((L.getD i 0 : Nat) : Int) < (NF : Int) := by omega
          by_cases hi0 : 0 < i
          · rw [if_pos hi0] at hra
            obtain ⟨g2, e2, _, cp⟩ := HCL.out (i - 1) (by omega)
            injection e2 with e2
            injection e2 with e2 _
            subst e2
            have wi : IntKind.i64.wrap ((i : Int) - 1) = ((i - 1 : Nat) : Int) := by rw [i64_in _ (by omega) (by omega)]; omega
            have z0 : (0 : Int) ≤ ((i - 1 : Nat) : Int) := by omega
            have z1 : ((i - 1 : Nat) : Int) < (n : Int) := by omega
            have p0 : decide ((i : Int) > 0) = true := decide_eq_true (by omega)
            have p1 : decide ((0 : Int) < (i : Int)) = true := decide_eq_true (by omega)
            have p2 : decide (0 < i) = true := decide_eq_true (by omega)
            by_cases h2 : L.getD i 0 ≤ L.getD (i - 1) 0
            · have g2 : decide (L.getD i 0 ≤ L.getD (i - 1) 0) = true := decide_eq_true (by omega)
              have HF : Hid (blown? NF l = none) := HNO.out (by rw [hra]; exact decide_eq_false (by omega))
              clear hra htk HNO HRI HRW HMK HST cD fD h1 h2 hXN
              generalize L.getD (i - 1) 0 = Y at *
              generalize L.getD i 0 = X at *
              generalize i - 1 = J at *
              go_wp2
              go_quiet (fail)
              go_wp2
              go_ret2
              exact ⟨.inr ⟨HF.out, rfl⟩, Below_dr HB.out ⟨nq, rfl⟩⟩
            · have g2 : decide (L.getD i 0 ≤ L.getD (i - 1) 0) = false := decide_eq_false (by omega)
              have HR2 : Hid (riseB NF (L.take (i + 1)) (-1) = true) := by rw [hra]; exact decide_eq_true (by omega)
              clear hra htk HNO HRI HRW HMK h1 h2 hXN HB
              generalize (marks NF (L.take i)).getD (L.getD i 0) false = BV at *
              generalize L.getD (i - 1) 0 = Y at *
              obtain ⟨X, hX⟩ : ∃ X, L.getD i 0 = X := ⟨_, rfl⟩
              rw [hX] at g1 g1' g2 HST cD fD x0 x1 ci
              clear hX
              generalize i - 1 = J at *
              go_wp2
              go_quiet (fail)
              go_wp2
              obtain ⟨s1, s2, s3⟩ := HST.out nq
              exact ⟨⟨i + 1, by omega, by go_num, HR2, s1, s2, s3⟩, by simp [intOf]; omega⟩
          · obtain rfl : i = 0 := by omega
            have p0 : decide (((0 : Nat) : Int) > 0) = false := decide_eq_false (by omega)
            have p1 : decide ((0 : Int) < ((0 : Nat) : Int)) = false := decide_eq_false (by omega)
            rw [if_neg (by omega)] at hra
            have HR2 : Hid (riseB NF (L.take (0 + 1)) (-1) = true) := by rw [hra]; exact decide_eq_true (by omega)
            clear hra htk HNO HRI HRW HMK h1 hXN HB hi0
            generalize (marks NF (L.take 0)).getD (L.getD 0 0) false = BV at *
            obtain ⟨X, hX⟩ : ∃ X, L.getD 0 0 = X := ⟨_, rfl⟩
            rw [hX] at g1 g1' HST cD fD x0 x1 ci
            clear hX
            go_wp2
            go_quiet (fail)
            go_wp2
            obtain ⟨s1, s2, s3⟩ := HST.out nq
            exact ⟨⟨0 + 1, by omega, by go_num, HR2, s1, s2, s3⟩, by simp [intOf]; omega⟩
      · obtain rfl : i = n := by omega
        have e : L.take i = L := List.take_of_length_le (by rw [HN.out]; exact Nat.le_refl _)
        have HF : Hid (blown? NF l = some (marks NF L)) := by
          show _ = _
          rw [HBL]
          have := HRI.out
          rw [e] at this
          rw [this]; rfl
        have HRF : Hid (Row wr D 4 ((marks NF L).map Value.bool)) := by have := HRW.out; rw [e] at this; exact this
        clear HRI HRW e
        go_wp2
        go_ret2
        exact ⟨.inl ⟨D, marks NF L, HF.out, rfl, hD, HRF.out⟩, HB.out⟩
  · dsimp only
    have HF := HBN.out hvs
    have HFH : Hid (blown? NF l = none) := HF
    clear HF hvs
    go_wp2
    go_ret2
    exact ⟨.inr ⟨HFH.out, rfl⟩, HB1.out⟩
end Go.Proofs.YtgpnbiaghokjkaaDoor


/-! Same of dump's reference. -/
namespace Go.Proofs.YtgpnbiaghokjkaaDoor
open Go.RowKit

set_option maxHeartbeats 4000000 in
set_option maxRecDepth 100000 in
theorem r21same_any (va vb : SV) (ta tb : St) (w : World) (ha : StV w va ta) (hb : StV w vb tb) (la : ta.pages.length ≤ 140737488355328 ∧ ta.erases.length ≤ 140737488355328 ∧ ta.blown.length ≤ 140737488355328 ∧ ∀ p ∈ ta.pages, p.length ≤ 140737488355328) (lb : tb.pages.length ≤ 140737488355328 ∧ tb.erases.length ≤ 140737488355328 ∧ tb.blown.length ≤ 140737488355328 ∧ ∀ p ∈ tb.pages, p.length ≤ 140737488355328) (r : Bool) (hr : r = true ↔ ta = tb) :
    Calls Tryd.prog 14 #[.agg (va.vals ta).toArray, .agg (vb.vals tb).toArray] w fun e w' => e = .returned (.bool r) ∧ Below w.heap.size w w' := by
  have HRF : Hid (¬ ta = tb → r = false) := fun h => by cases hrr : r with | false => rfl | true => exact absurd (hr.1 hrr) h
  have HRT : Hid (ta = tb → r = true) := fun h => hr.2 h
  clear hr
  have b0 : ∀ o1 o2, Below w.heap.size w ((w.alloc o1).alloc o2) := fun o1 o2 => ((Below.refl _ _).alloc (Nat.le_refl _) _).alloc (by simp) _
  have rA : Row ((w.alloc (.cells (va.vals ta).toArray 29)).alloc (.cells (vb.vals tb).toArray 29)) w.heap.size 29 (va.vals ta) := (Row.at w 29 (va.vals ta) _ _ rfl rfl).alloc _
  have rB : Row ((w.alloc (.cells (va.vals ta).toArray 29)).alloc (.cells (vb.vals tb).toArray 29)) (w.heap.size + 1) 29 (vb.vals tb) := Row.at _ _ _ _ _ (by simp) rfl
  have bb := b0 (.cells (va.vals ta).toArray 29) (.cells (vb.vals tb).toArray 29)
  have HA : Hid (∀ W, Below w.heap.size w W → StV W va ta) := fun W h => ha.below h (Nat.le_refl _)
  have HB : Hid (∀ W, Below w.heap.size w W → StV W vb tb) := fun W h => hb.below h (Nat.le_refl _)
  have LA := la
  have LB := lb
  have HLA : Hid (∀ p ∈ ta.pages, p.length ≤ 140737488355328) := la.2.2.2
  have HLB : Hid (∀ p ∈ tb.pages, p.length ≤ 140737488355328) := lb.2.2.2
  obtain ⟨la1, la2, la3, _⟩ := LA
  obtain ⟨lb1, lb2, lb3, _⟩ := LB
  clear la lb ha hb b0
  have a0 := rA.cell 0 _ rfl
  have a1 := rA.cell 1 _ rfl
  have a2 := rA.cell 2 _ rfl
  have b0 := rB.cell 0 _ rfl
  have b1 := rB.cell 1 _ rfl
  have b2 := rB.cell 2 _ rfl
  clear rA rB
  simp only [SV.vals] at a0 a1 a2 b0 b1 b2 bb ⊢
  generalize hW0 : (w.alloc (.cells [Value.slice va.po ta.pages.length va.pc, .slice va.eo ta.erases.length va.ec, .slice va.bo ta.blown.length va.bc].toArray 29)).alloc (.cells [Value.slice vb.po tb.pages.length vb.pc, .slice vb.eo tb.erases.length vb.ec, .slice vb.bo tb.blown.length vb.bc].toArray 29) = W0 at *
  by_cases n1 : ta.pages.length = tb.pages.length
  · by_cases n2 : ta.erases.length = tb.erases.length
    · by_cases n3 : ta.blown.length = tb.blown.length
      · rw [← n1] at b0
        rw [← n2] at b1
        rw [← n3] at b2
        have N1 : Hid (ta.pages.length = tb.pages.length) := n1
        have N2 : Hid (ta.erases.length = tb.erases.length) := n2
        have N3 : Hid (ta.blown.length = tb.blown.length) := n3
        have e1 : ((ta.pages.length : Int) != (ta.pages.length : Int)) = false := by simp
        have e2 : ((ta.erases.length : Int) != (ta.erases.length : Int)) = false := by simp
        have e3 : ((ta.blown.length : Int) != (ta.blown.length : Int)) = false := by simp
        clear n1 n2 n3 lb1 lb2 lb3
        have hd0 : Dr W0 W0 := Dr.refl _
        go_enter Tryd.func14, Tryd.ntmps14
        go_wp2
        go_loopw [5] (fun iv wr => ∃ p : Nat, p ≤ ta.pages.length ∧ iv = .int .i64 p ∧ Dr W0 wr ∧ Hid (∀ j, j < p → ta.pages.getD j [] = tb.pages.getD j [])) (fun iv _ => ta.pages.length - (intOf iv).toNat)
        case atStart => exact ⟨0, by omega, rfl, hd0, fun j hj => by omega⟩
        case round =>
          obtain ⟨p, hp, rfl, d, heq⟩ := hrel
          have a0' := d.cell a0
          have b0' := d.cell b0
          by_cases hlt : p < ta.pages.length
          · have y1 : (p : Int) < (ta.pages.length : Int) := by omega
            have y0 : (0 : Int) ≤ (p : Int) := by omega
            have bwr : Below w.heap.size w wr := Below_dr bb d
            obtain ⟨BA, oA, qa, qca, epa, cpa, ila, x32a⟩ := (HA.out wr bwr).page p hlt
            obtain ⟨BB, oB, qb, qcb, epb, cpb, ilb, x32b⟩ := (HB.out wr bwr).page p (by rw [← N1.out]; exact hlt)
            rw [epa] at a0'
            rw [epb] at b0'
            clear epa epb
            have hPA : (ta.pages.getD p []).length ≤ 140737488355328 := by
              rw [List.getD_eq_getElem?_getD, List.getElem?_eq_getElem hlt]; exact HLA.out _ (List.getElem_mem _)
            by_cases hpl : (ta.pages.getD p []).length = (tb.pages.getD p []).length
            · rw [← hpl] at cpb
              have HPL : Hid ((ta.pages.getD p []).length = (tb.pages.getD p []).length) := hpl
              have e9 : (((ta.pages.getD p []).length : Int) != ((ta.pages.getD p []).length : Int)) = false := by simp
              have HILA : Hid (IsL wr qa ((ta.pages.getD p []).flatten.map B8)) := ila
              have HILB : Hid (IsL wr qb ((tb.pages.getD p []).flatten.map B8)) := ilb
              have HXA : Hid (∀ x ∈ ta.pages.getD p [], x.length = 32) := x32a
              have HXB : Hid (∀ x ∈ tb.pages.getD p [], x.length = 32) := x32b
              have HNE : Hid (¬ ta.pages.getD p [] = tb.pages.getD p [] → ¬ ta = tb) := fun h1 h2 => h1 (by rw [h2])
              have HNP : Hid (∀ h : ta.pages.getD p [] = tb.pages.getD p [], ∀ j, j < p + 1 → ta.pages.getD j [] = tb.pages.getD j []) := fun h j hj => by
                by_cases hjp : j = p
                · rw [hjp]; exact h
                · exact heq.out j (by omega)
              clear hpl ila ilb x32a x32b
              generalize ta.pages.getD p [] = PA at *
              generalize tb.pages.getD p [] = PB at *
              go_wp2
              go_quiet (fail)
              go_wp2
              go_loopw [6] (fun iv wq => ∃ i : Nat, i ≤ PA.length ∧ iv = .int .i64 i ∧ Dr wr wq ∧ Hid (∀ j, j < i → PA.getD j [] = PB.getD j [])) (fun iv _ => PA.length - (intOf iv).toNat)
              case atStart => exact ⟨0, by omega, rfl, ⟨nq, rfl⟩, fun j hj => by omega⟩
              case round =>
                obtain ⟨i, hi, rfl, d2, heq2⟩ := hrel
                have dd : Dr W0 wr := d.trans d2
                have a0q := d2.cell a0'
                have b0q := d2.cell b0'
                have cpaq := d2.cell cpa
                have cpbq := d2.cell cpb
                have HILAq : Hid (IsL wr qa (PA.flatten.map B8)) := HILA.out.dr d2
                have HILBq : Hid (IsL wr qb (PB.flatten.map B8)) := HILB.out.dr d2
                by_cases hil : i < PA.length
                · have z1 : (i : Int) < (PA.length : Int) := by omega
                  have z0 : (0 : Int) ≤ (i : Int) := by omega
                  have hilb : i < PB.length := by rw [← HPL.out]; exact hil
                  have fa := flat_len _ HXA.out
                  have fb := flat_len _ HXB.out
                  obtain ⟨QA, pA, eqa, rga⟩ := HILAq.out.range (i * 32) 32 (by omega) (by rw [List.length_map, fa]; omega)
                  obtain ⟨QB, pB, eqb, rgb⟩ := HILBq.out.range (i * 32) 32 (by omega) (by rw [List.length_map, fb]; omega)
                  rw [← List.map_drop, ← List.map_take, Nat.mul_comm i 32, flat_seg _ HXA.out i hil, Nat.mul_comm 32 i] at rga
                  rw [← List.map_drop, ← List.map_take, Nat.mul_comm i 32, flat_seg _ HXB.out i hilb, Nat.mul_comm 32 i] at rgb
                  have lxA : (PA.getD i []).length = 32 := by rw [List.getD_eq_getElem?_getD, List.getElem?_eq_getElem hil]; exact HXA.out _ (List.getElem_mem _)
                  have lxB : (PB.getD i []).length = 32 := by rw [List.getD_eq_getElem?_getD, List.getElem?_eq_getElem hilb]; exact HXB.out _ (List.getElem_mem _)
                  rw [eqa] at cpaq
                  rw [eqb] at cpbq
                  clear eqa eqb
                  have hq := eq_cell (PA.getD i []) (PB.getD i []) lxA lxB
                  have HNX : Hid (∀ h : PA.getD i [] = PB.getD i [], ∀ j, j < i + 1 → PA.getD j [] = PB.getD j []) := fun h j hj => by
                    by_cases hji : j = i
                    · rw [hji]; exact h
                    · exact heq2.out j (by omega)
                  have HDF : Hid (¬ PA.getD i [] = PB.getD i [] → ¬ ta = tb) := fun h => HNE.out (fun h2 => h (by rw [h2]))
                  clear fa fb
                  generalize PA.getD i [] = XA at *
                  generalize PB.getD i [] = XB at *
                  obtain ⟨eqb', heb⟩ : ∃ b, decide (XA = XB) = b := ⟨_, rfl⟩
                  rw [heb] at hq
                  have HEB : Hid (decide (XA = XB) = eqb') := heb
                  clear heb
                  go_wp2
                  refine wp_region_still_lit (by kernel_rfl) (by kernel_rfl) ?_
                  have hdz : Dr wr { wr with drawn := wr.drawn + 1 } := ⟨1, rfl⟩
                  generalize { wr with drawn := wr.drawn + 1 } = wz at hdz ⊢
                  replace a0q := hdz.cell a0q
                  replace b0q := hdz.cell b0q
                  replace cpaq := hdz.cell cpaq
                  replace cpbq := hdz.cell cpbq
                  have rgaz : wz.rangeAt QA (pA + i * 32) (XA.map B8) := fun j v hv => hdz.cell (rga j v hv)
                  have rgbz : wz.rangeAt QB (pB + i * 32) (XB.map B8) := fun j v hv => hdz.cell (rgb j v hv)
                  still_step
                  still_step
                  still_step
                  still_step
                  still_step
                  still_step
                  still_step
                  refine wpStill_load_range rfl 56 _ rfl QA (pA + i * 32) 32 _ rgaz rfl _ (by rw [List.length_map]; exact lxA) Tryd.underlying56 rfl (by kernel_rfl) ?_
                  still_step
                  still_step
                  still_step
                  still_step
                  still_step
                  still_step
                  still_step
                  refine wpStill_load_range rfl 56 _ rfl QB (pB + i * 32) 32 _ rgbz rfl _ (by rw [List.length_map]; exact lxB) Tryd.underlying56 rfl (by kernel_rfl) ?_
                  still_step
                  refine wpStill_nil ?_
                  cases eqb'
                  · go_wp2
                    go_ret
                    have hne : ¬ XA = XB := by have := HEB.out; simpa using this
                    exact ⟨by rw [HRF.out (HDF.out hne)]; rfl, Below_dr bb (dd.trans hdz)⟩
                  · have heq3 : XA = XB := by have := HEB.out; simpa using this
                    have HNX' : Hid (∀ j, j < i + 1 → PA.getD j [] = PB.getD j []) := HNX.out heq3
                    clear heq3
                    go_wp2
                    exact ⟨⟨i + 1, by omega, by go_num, d2.trans hdz, HNX'.out⟩, by simp [intOf]; omega⟩
                · obtain rfl : i = PA.length := by omega
                  have z1 : ¬ (PA.length : Int) < (PA.length : Int) := by omega
                  have HPP : Hid (∀ j, j < p + 1 → ta.pages.getD j [] = tb.pages.getD j []) := HNP.out (getD_ext [] _ _ HPL.out heq2.out)
                  clear hil hi heq2
                  go_wp2
                  exact ⟨⟨p + 1, by omega, by go_num, dd, HPP.out⟩, by simp [intOf]; omega⟩
            · have e9 : (((ta.pages.getD p []).length : Int) != ((tb.pages.getD p []).length : Int)) = true := by rw [bne_iff_ne]; omega
              have HX : Hid (¬ ta = tb) := fun h => hpl (by rw [h])
              clear hpl
              generalize (ta.pages.getD p []).length = LA at *
              generalize (tb.pages.getD p []).length = LB at *
              go_wp2
              go_quiet (fail)
              go_wp2
              go_ret
              exact ⟨by rw [HRF.out HX.out]; rfl, Below_dr bb (d.drewN nq)⟩
          · obtain rfl : p = ta.pages.length := by omega
            have y1 : ¬ (ta.pages.length : Int) < (ta.pages.length : Int) := by omega
            have HPG : Hid (ta.pages = tb.pages) := getD_ext [] _ _ N1.out heq.out
            clear hlt hp heq
            go_wp2
            go_loopw [7] (fun iv wr => ∃ p : Nat, p ≤ ta.erases.length ∧ iv = .int .i64 p ∧ Dr W0 wr ∧ Hid (∀ j, j < p → ta.erases.getD j 0 = tb.erases.getD j 0)) (fun iv _ => ta.erases.length - (intOf iv).toNat)
            case atStart => exact ⟨0, by omega, rfl, d, fun j hj => by omega⟩
            case round =>
              obtain ⟨p, hp, rfl, d, heq⟩ := hrel
              have a' := d.cell a1
              have b' := d.cell b1
              by_cases hlt : p < ta.erases.length
              · have y1 : (p : Int) < (ta.erases.length : Int) := by omega
                have y0 : (0 : Int) ≤ (p : Int) := by omega
                have bwr : Below w.heap.size w wr := Below_dr bb d
                have hltb : p < tb.erases.length := by rw [← N2.out]; exact hlt
                obtain ⟨BA, oA, eA, cA⟩ := (HA.out wr bwr).er.cell p (Value.int .i64 (ta.erases.getD p 0)) (by rw [List.getElem?_map, List.getD_eq_getElem?_getD, List.getElem?_eq_getElem hlt]; rfl)
                obtain ⟨BB, oB, eB, cB⟩ := (HB.out wr bwr).er.cell p (Value.int .i64 (tb.erases.getD p 0)) (by rw [List.getElem?_map, List.getD_eq_getElem?_getD, List.getElem?_eq_getElem hltb]; rfl)
                rw [eA] at a'
                rw [eB] at b'
                by_cases hxy : ta.erases.getD p 0 = tb.erases.getD p 0
                · have e9 : ((ta.erases.getD p 0) != (tb.erases.getD p 0)) = false := by rw [bne_eq_false_iff_eq]; exact hxy
                  have HS : Hid (∀ j, j < p + 1 → ta.erases.getD j 0 = tb.erases.getD j 0) := fun j hj => by
                    by_cases hjp : j = p
                    · rw [hjp]; exact hxy
                    · exact heq.out j (by omega)
                  clear hxy
                  generalize ta.erases.getD p 0 = xA at *
                  generalize tb.erases.getD p 0 = xB at *
                  go_wp2
                  go_quiet (fail)
                  go_wp2
                  exact ⟨⟨p + 1, by omega, by go_num, d.drewN nq, HS.out⟩, by simp [intOf]; omega⟩
                · have e9 : ((ta.erases.getD p 0) != (tb.erases.getD p 0)) = true := by rw [bne_iff_ne]; exact hxy
                  have HX : Hid (¬ ta = tb) := fun h => hxy (by rw [h])
                  clear hxy
                  generalize ta.erases.getD p 0 = xA at *
                  generalize tb.erases.getD p 0 = xB at *
                  go_wp2
                  go_quiet (fail)
                  go_wp2
                  go_ret
                  exact ⟨by rw [HRF.out HX.out]; rfl, Below_dr bb (d.drewN nq)⟩
              · obtain rfl : p = ta.erases.length := by omega
                have y1 : ¬ (ta.erases.length : Int) < (ta.erases.length : Int) := by omega
                have HEQ1 : Hid (ta.erases = tb.erases) := getD_ext 0 _ _ N2.out heq.out
                clear hlt hp heq
                go_wp2
                go_loopw [8] (fun iv wr => ∃ p : Nat, p ≤ ta.blown.length ∧ iv = .int .i64 p ∧ Dr W0 wr ∧ Hid (∀ j, j < p → ta.blown.getD j false = tb.blown.getD j false)) (fun iv _ => ta.blown.length - (intOf iv).toNat)
                case atStart => exact ⟨0, by omega, rfl, d, fun j hj => by omega⟩
                case round =>
                  obtain ⟨p, hp, rfl, d, heq⟩ := hrel
                  have a' := d.cell a2
                  have b' := d.cell b2
                  by_cases hlt : p < ta.blown.length
                  · have y1 : (p : Int) < (ta.blown.length : Int) := by omega
                    have y0 : (0 : Int) ≤ (p : Int) := by omega
                    have bwr : Below w.heap.size w wr := Below_dr bb d
                    have hltb : p < tb.blown.length := by rw [← N3.out]; exact hlt
                    obtain ⟨BA, oA, eA, cA⟩ := (HA.out wr bwr).bl.cell p (Value.bool (ta.blown.getD p false)) (by rw [List.getElem?_map, List.getD_eq_getElem?_getD, List.getElem?_eq_getElem hlt]; rfl)
                    obtain ⟨BB, oB, eB, cB⟩ := (HB.out wr bwr).bl.cell p (Value.bool (tb.blown.getD p false)) (by rw [List.getElem?_map, List.getD_eq_getElem?_getD, List.getElem?_eq_getElem hltb]; rfl)
                    rw [eA] at a'
                    rw [eB] at b'
                    generalize hxA : ta.blown.getD p false = xA at cA
                    generalize hxB : tb.blown.getD p false = xB at cB
                    have HXA : Hid (ta.blown.getD p false = xA) := hxA
                    have HXB : Hid (tb.blown.getD p false = xB) := hxB
                    clear hxA hxB
                    cases xA <;> cases xB
                    all_goals
                      go_wp2
                      go_quiet (fail)
                      go_wp2
                      first
                        | exact ⟨⟨p + 1, by omega, by go_num, d.drewN nq, (fun j hj => by
                            by_cases hjp : j = p
                            · rw [hjp, HXA.out, HXB.out]
                            · exact heq.out j (by omega))⟩, by simp [intOf]; omega⟩
                        | (go_ret; exact ⟨by rw [HRF.out (fun h => by have h1 := HXA.out; rw [h, HXB.out] at h1; cases h1)]; rfl, Below_dr bb (d.drewN nq)⟩)
                  · obtain rfl : p = ta.blown.length := by omega
                    have y1 : ¬ (ta.blown.length : Int) < (ta.blown.length : Int) := by omega
                    have HEQ2 : Hid (ta.blown = tb.blown) := getD_ext false _ _ N3.out heq.out
                    clear hlt hp heq
                    go_wp2
                    go_ret
                    exact ⟨by rw [HRT.out (St_ext HPG.out HEQ1.out HEQ2.out)]; rfl, Below_dr bb d⟩
      · have e1 : ((ta.pages.length : Int) != (tb.pages.length : Int)) = false := by rw [bne_eq_false_iff_eq]; omega
        have e2 : ((ta.erases.length : Int) != (tb.erases.length : Int)) = false := by rw [bne_eq_false_iff_eq]; omega
        have e3 : ((ta.blown.length : Int) != (tb.blown.length : Int)) = true := by rw [bne_iff_ne]; omega
        have N3 : Hid (¬ ta.blown.length = tb.blown.length) := n3
        clear n1 n2 n3
        go_enter Tryd.func14, Tryd.ntmps14
        go_wp2
        go_ret
        exact ⟨by rw [HRF.out (fun h => N3.out (by rw [h]))]; rfl, bb⟩
    · have e1 : ((ta.pages.length : Int) != (tb.pages.length : Int)) = false := by rw [bne_eq_false_iff_eq]; omega
      have e2 : ((ta.erases.length : Int) != (tb.erases.length : Int)) = true := by rw [bne_iff_ne]; omega
      have N2 : Hid (¬ ta.erases.length = tb.erases.length) := n2
      clear n1 n2
      go_enter Tryd.func14, Tryd.ntmps14
      go_wp2
      go_ret
      exact ⟨by rw [HRF.out (fun h => N2.out (by rw [h]))]; rfl, bb⟩
  · have e1 : ((ta.pages.length : Int) != (tb.pages.length : Int)) = true := by rw [bne_iff_ne]; omega
    have N1 : Hid (¬ ta.pages.length = tb.pages.length) := n1
    clear n1
    go_enter Tryd.func14, Tryd.ntmps14
    go_wp2
    go_ret
    exact ⟨by rw [HRF.out (fun h => N1.out (by rw [h]))]; rfl, bb⟩
end Go.Proofs.YtgpnbiaghokjkaaDoor
