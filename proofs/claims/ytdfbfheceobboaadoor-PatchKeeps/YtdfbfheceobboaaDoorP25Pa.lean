import Derived.Test.YtdfbfheceobboaaDoorSum
import Derived.Test.YtdfbfheceobboaaDoorP25D3
import Derived.Test.YtdfbfheceobboaaDoorP25Sm
import Derived.Test.YtdfbfheceobboaaDoorP25Pu

namespace Go.Proofs.YtdfbfheceobboaaDoor
open Go.RowKit

theorem sha_len (m : List By) : (sha m).length = 32 := rfl

set_option maxHeartbeats 1000000 in
set_option maxRecDepth 100000 in
theorem of_any (ao : Option Addr) (cap : Nat) (m : List By) (w : World) (hb : IsB w ao m) (hcap : m.length ≤ cap) (hm : m.length ≤ 140737488353280) :
    Calls Tryd.prog 14 #[.slice ao m.length cap] w fun e w' => e = .returned (.agg ((sha m).map B8).toArray) ∧ Below w.heap.size w w' := by
  go_enter Tryd.func14, Tryd.ntmps14
  go_wp2_with fail
  have r0 := Row.at w 44 ((List.replicate 32 (0 : By)).map B8) _ _ rfl rfl
  have b1 : Below w.heap.size w (w.alloc (.cells ((List.replicate 32 (0 : By)).map B8).toArray 44)) := (Below.refl _ _).alloc (Nat.le_refl _) _
  have hz1 : (w.alloc (.cells ((List.replicate 32 (0 : By)).map B8).toArray 44)).heap.size = w.heap.size + 1 := by simp
  have nw := new_any (w.alloc (.cells ((List.replicate 32 (0 : By)).map B8).toArray 44))
  rw [hz1] at nw
  refine nw.mono ?_
  clear nw
  rintro e w2 ⟨g, rfl, hg, rg, hb2⟩
  replace r0 := r0.below hb2 (by omega)
  replace b1 := b1.trans (hb2.mono (by omega))
  clear hb2 hz1
  have dg : Dig w2 g [] := ⟨List.replicate 64 0, by simp, by simp, by simpa [hs] using rg⟩
  have hg2 := rg.lt
  have isb : IsBn g w2 ao m := by
    rcases hb.below b1 (Nat.le_refl _) with h | ⟨B, off, rfl, hc⟩
    · exact .inl h
    · refine .inr ⟨B, off, rfl, fun j v hj => ⟨?_, hc j v hj⟩⟩
      rcases hb with h | ⟨B', off', h', hc'⟩
      · rw [h] at hj; simp at hj
      · injection h' with h'
        injection h' with hB
        have := block_lt_of_cell (hc' j v hj)
        simp at this
        omega
  clear hb rg
  generalize hN : w.heap.size = N at *
  go_wp2_with fail
  refine (write_any g [] ao cap m w2 dg isb hcap (by simp; omega) (by omega)).mono ?_
  rintro e w3 ⟨rfl, dg3, k3⟩
  rw [List.nil_append] at dg3
  replace r0 := r0.kept k3 (by omega)
  replace b1 := k3.toBelow b1 (by omega) (by omega)
  clear k3 dg isb
  go_wp2_with fail
  refine (sum_any g m w3 dg3 (by omega)).mono ?_
  rintro e w4 ⟨rfl, hb4⟩
  have hz3 := r0.lt
  replace r0 := r0.below hb4 hz3
  replace b1 := b1.trans (hb4.mono (by omega))
  clear hb4 dg3
  have hsl := sha_len m
  generalize hsm : sha m = sm at *
  have HSM : Hid (sha m = sm) := hsm
  clear hsm
  go_wp2_with (refine wpList_store_Row rfl 44 _ _ rfl _ _ 0 _ (sm.map B8) r0 (by simp [hsl]) rfl rfl (by rw [List.length_map, hsl]; kernel_rfl) (B8_one _) ?_; intro w9 hr9 hs9)
  have hr := row_whole hr9 (by simp [hsl])
  exact bodyPost_ret_by (results_Row Tryd.results14 _ w9 N 44 _ _ rfl hr Tryd.underlying44 rfl (by rw [List.length_map, hsl]; kernel_rfl)) rfl ⟨by rw [HSM.out], by rw [hN]; exact hs9.below b1 (Nat.le_refl _)⟩
end Go.Proofs.YtdfbfheceobboaaDoor


/-! What Make makes and Join joins: the promises on data. -/
namespace Go.Proofs.YtdfbfheceobboaaDoor
open Go.RowKit
set_option linter.unusedVariables false

def makeM (old new : List By) : List By := headB (sha old) (sha new) old.length new.length ++ putL (bestP old new)
def joinJ (p q : List By) : List By :=
  match joinsR p q with
  | .error _ => []
  | .ok (x, y) => headB x.old y.new x.before y.after ++ putL (through x.l y.l)
theorem made25M (old new : List By) (ho : old.length ≤ 524288) (hn : new.length ≤ 524288) : ∃ x, readR (makeM old new) = .ok x ∧ x.before = old.length ∧ x.after = new.length ∧ x.old = sha old ∧ x.new = sha new ∧ tells x.l old = new ∧ (makeM old new).length ≤ mostN old new := by
  obtain ⟨h1, h2, h3, h4⟩ := best_right old new
  refine ⟨⟨sha old, sha new, old.length, new.length, bestP old new⟩, readR_put ⟨sha old, sha new, old.length, new.length, bestP old new⟩ (sha_len old) (sha_len new) ho hn h1 h2 h3, rfl, rfl, rfl, rfl, h4, ?_⟩
  have := best_len old new
  unfold makeM
  rw [List.length_append, headB_len (sha_len old) (sha_len new)]
  exact this
theorem partR_frm {bef aft : Nat} {l : List Pt} {p : List By} {a hv : Nat} {y : Pt} {nx : Nat} (h : partR bef aft l p a hv = .ok (y, nx)) : y.lay = true → y.frm = 0 := by
  unfold partR at h
  repeat' split at h
  all_goals first
    | (cases h; done)
    | (injection h with h; injection h with hy hx; subst hy; intro _; rfl)
    | (injection h with h; injection h with hy hx; subst hy; intro hh; cases hh)
theorem readL_frm {bef aft : Nat} {p : List By} : ∀ (n a hv : Nat) (l : List Pt) {l' : List Pt} {a' : Nat}, (∀ y ∈ l, y.lay = true → y.frm = 0) → readL bef aft p n a hv l = .ok (l', a') → ∀ y ∈ l', y.lay = true → y.frm = 0
  | 0, a, hv, l, l', a', ho, h => by
    injection h with h
    injection h with h1 h2
    subst h1
    exact ho
  | n + 1, a, hv, l, l', a', ho, h => by
    rw [readL] at h
    split at h
    · injection h with h
      injection h with h1 h2
      subst h1
      exact ho
    · split at h
      · cases h
      · rename_i y nx he
        have h1 := partR_frm he
        refine readL_frm n nx (hv + y.n) (l ++ [y]) ?_ h
        intro z hz
        rcases List.mem_append.1 hz with hz | hz
        · exact ho z hz
        · rw [List.mem_singleton] at hz; subst hz; exact h1
theorem readR_right {p : List By} {x : PX} (h : readR p = .ok x) : (∀ y ∈ x.l, PtR x.before y) ∧ sumN x.l = x.after := by
  have hok := readR_ok h
  refine ⟨fun y hy => ⟨hok.pos y hy, fun hl => ⟨hok.lay y hy hl, ?_⟩, hok.cpy y hy⟩, hok.sum⟩
  revert y
  unfold readR at h
  split at h
  · cases h
  · rename_i x0 he
    split at h
    · cases h
    · rename_i l a hl
      split at h
      · cases h
      · injection h with h
        subst h
        exact fun y hy hlay => readL_frm _ _ _ _ (by simp) hl y hy hlay
theorem joinsR_ok {p q : List By} {x y : PX} (h : joinsR p q = .ok (x, y)) : readR p = .ok x ∧ readR q = .ok y ∧ y.old = x.new ∧ y.before = x.after := by
  unfold joinsR at h
  split at h
  · cases h
  · rename_i x1 h1
    split at h
    · cases h
    · rename_i y1 h2
      split at h
      · cases h
      · rename_i h3
        injection h with h
        injection h with e1 e2
        subst e1; subst e2
        simp only [not_or, Decidable.not_not] at h3
        exact ⟨h1, h2, h3.1, h3.2⟩
theorem joined25J (p q : List By) (x y : PX) (h : joinsR p q = .ok (x, y)) : ∃ z, readR (joinJ p q) = .ok z ∧ z.old = x.old ∧ z.before = x.before ∧ z.new = y.new ∧ z.after = y.after ∧ (joinJ p q).length ≤ 100000000 ∧ ∀ old, old.length = x.before → tells z.l old = tells y.l (tells x.l old) := by
  obtain ⟨h1, h2, h3, h4⟩ := joinsR_ok h
  have ox := readR_ok h1
  have oy := readR_ok h2
  obtain ⟨r1, s1⟩ := readR_right h1
  obtain ⟨r2, s2⟩ := readR_right h2
  obtain ⟨k1, k2, k3, k4⟩ := through_right r1 y.l [] (by simp) beh_nil (by rw [s1, ← h4]; exact r2)
  rw [sumN_nil, Nat.zero_add, s2] at k3
  have e : joinJ p q = headB x.old y.new x.before y.after ++ putL (through x.l y.l) := by unfold joinJ; rw [h]
  rw [e]
  refine ⟨⟨x.old, y.new, x.before, y.after, through x.l y.l⟩, readR_put ⟨x.old, y.new, x.before, y.after, through x.l y.l⟩ ox.lo oy.ln ox.bef oy.aft k1 k2 k3, rfl, rfl, rfl, rfl, ?_, fun old ho => ?_⟩
  · rw [List.length_append, headB_len ox.lo oy.ln]
    have hh : (putL (through x.l y.l)).length ≤ 10 * sumN (through x.l y.l) := putL_le _ _ k1
    have hk : sumN (through x.l y.l) = y.after := k3
    have := oy.aft
    omega
  · have := k4 old ho
    simpa [tells, through] using this
end Go.Proofs.YtdfbfheceobboaaDoor


/-! The code's patch: all parts' bytes. -/
namespace Go.Proofs.YtdfbfheceobboaaDoor
open Go.RowKit
set_option linter.unusedVariables false
set_option linter.unusedSimpArgs false
set_option maxRecDepth 100000

theorem mSize_s (v x : Value) (w : World) : (Go.method 277 66 (.agg #[v, x]) "portcullis/patch.size").run Tryd.prog w = .ok (92, .agg #[v, x]) w := by kernel_rfl
theorem mSize_l (v : Value) (w : World) : (Go.method 277 63 (.agg #[v]) "portcullis/patch.size").run Tryd.prog w = .ok (88, .agg #[v]) w := by kernel_rfl
theorem mPut_s (v x : Value) (w : World) : (Go.method 277 66 (.agg #[v, x]) "portcullis/patch.put").run Tryd.prog w = .ok (91, .agg #[v, x]) w := by kernel_rfl
theorem mPut_l (v : Value) (w : World) : (Go.method 277 63 (.agg #[v]) "portcullis/patch.put").run Tryd.prog w = .ok (87, .agg #[v]) w := by kernel_rfl
theorem mTell_s (v x : Value) (w : World) : (Go.method 277 66 (.agg #[v, x]) "portcullis/patch.tell").run Tryd.prog w = .ok (93, .agg #[v, x]) w := by kernel_rfl
theorem mTell_l (v : Value) (w : World) : (Go.method 277 63 (.agg #[v]) "portcullis/patch.tell").run Tryd.prog w = .ok (89, .agg #[v]) w := by kernel_rfl
theorem mCut_s (v x : Value) (w : World) : (Go.method 277 66 (.agg #[v, x]) "portcullis/patch.cut").run Tryd.prog w = .ok (90, .agg #[v, x]) w := by kernel_rfl
theorem mCut_l (v : Value) (w : World) : (Go.method 277 63 (.agg #[v]) "portcullis/patch.cut").run Tryd.prog w = .ok (86, .agg #[v]) w := by kernel_rfl
/-- A lay's bytes do not lie in a row that grows. -/
def Apt (ao : Option Addr) (v : Value) : Prop := ∀ B off n c, v = layV (some ⟨B, off, none⟩) n c → ao ≠ some ⟨B, 0, none⟩
theorem putL_take {l : List Pt} {i : Nat} {y : Pt} (h : l[i]? = some y) : putL (l.take (i + 1)) = putL (l.take i) ++ putB y := by
  rw [takeP_one h, putL_app, putL_cons]; simp [putL]
theorem putL_take_le (l : List Pt) (i : Nat) : (putL (l.take i)).length ≤ (putL l).length := by
  have h := congrArg List.length (putL_app (l.take i) (l.drop i))
  rw [List.take_append_drop, List.length_append] at h
  omega
theorem putB_s {y : Pt} (h : y.lay = false) : putB y = [1#8] ++ le4 y.frm ++ le4 y.n := by simp [putB, h]
theorem putB_l {y : Pt} (h : y.lay = true) : putB y = [2#8] ++ le4 y.n ++ y.b := by simp [putB, h]
set_option maxHeartbeats 1000000 in
theorem cputall_any (N K0 : Nat) (ao : Option Addr) (n c : Nat) (m : List By) (w : World) (l : List Pt) (lo : Option Addr) (lc : Nat) (hown : Own N w (.slice ao n c) m)
    (hl : ∀ W ao', Grw N ao ao' w W → ∀ i y, l[i]? = some y → ∃ B v, lo = some ⟨B, 0, none⟩ ∧ W.cell? ⟨B, i, none⟩ = some v ∧ PaV K0 W y v ∧ Apt ao' v)
    (hy : ∀ y ∈ l, 1 ≤ y.n ∧ y.n < 4294967296 ∧ y.frm < 4294967296) (hn : n + (putL l).length ≤ 800000000) (hll : l.length ≤ 800000000) :
    Calls Tryd.prog 10 #[.slice ao n c, .slice lo l.length lc] w (PutP N ao w (n + (putL l).length) (m ++ putL l)) := by
  have H0 : Hid (Own N w (.slice ao n c) m) := hown
  have HL : Hid (∀ W ao', Grw N ao ao' w W → ∀ i y, l[i]? = some y → ∃ B v, lo = some ⟨B, 0, none⟩ ∧ W.cell? ⟨B, i, none⟩ = some v ∧ PaV K0 W y v ∧ Apt ao' v) := hl
  have HY : Hid (∀ y ∈ l, 1 ≤ y.n ∧ y.n < 4294967296 ∧ y.frm < 4294967296) := hy
  have HN : Hid (n + (putL l).length ≤ 800000000 ∧ l.length ≤ 800000000) := ⟨hn, hll⟩
  have M1 := mPut_s
  have M2 := mPut_l
  clear hown hl hy hn hll
  obtain ⟨nl, hnl⟩ : ∃ nl, nl = l.length := ⟨_, rfl⟩
  have HNL : Hid (nl = l.length) := hnl
  rw [← hnl]
  clear hnl
  go_enter Tryd.func10, Tryd.ntmps10
  go_wp2
  go_loopw [0, 9] (fun sv iv wr => ∃ (i : Nat) (ao' : Option Addr) (c' : Nat), i ≤ nl ∧ sv = .slice ao' (n + (putL (l.take i)).length) c' ∧ iv = .int .i64 i ∧ Hid (Own N wr (.slice ao' (n + (putL (l.take i)).length) c') (m ++ putL (l.take i)) ∧ Grw N ao ao' w wr)) (fun _ iv _ => nl - (intOf iv).toNat)
  case atStart => exact ⟨0, ao, c, by omega, rfl, rfl, by simpa [putL] using H0.out, Grw.refl _ _ _⟩
  case round =>
    obtain ⟨i, ao', c', hi, rfl, rfl, HI⟩ := hrel
    by_cases hlt : i < nl
    · have x0 : (0 : Int) ≤ (i : Int) := by omega
      have x1 : (i : Int) < (nl : Int) := by omega
      have z1 : IntKind.i64.wrap ((i : Int) + 1) = (i : Int) + 1 := i64_in _ (by omega) (by have := HN.out.2; have := HNL.out; omega)
      obtain ⟨y, hy⟩ : ∃ y, l[i]? = some y := ⟨_, List.getElem?_eq_getElem (by have := HNL.out; omega)⟩
      obtain ⟨hy1, hy2, hy3⟩ := HY.out y (List.mem_of_getElem? hy)
      obtain ⟨B, v, rfl, hc, hv, hap⟩ := HL.out _ _ HI.out.2 i y hy
      have hle := putL_take_le l i
      have hnn := HN.out.1
      have hT := putL_take hy
      rcases hv.eq with ⟨hlay, rfl⟩ | ⟨hlay, B2, off2, c2, rfl, hb1, hb2, hb3, hb4⟩
      · have FP : Hid (Calls Tryd.prog 91 #[.agg #[.int .i64 (y.frm : Int), .int .i64 (y.n : Int)], .slice ao' (n + (putL (l.take i)).length) c'] wr (PutP N ao' wr (n + (putL (l.take (i + 1))).length) (m ++ putL (l.take (i + 1))))) := by
          have h := sput_any N y.frm y.n ao' (n + (putL (l.take i)).length) c' (m ++ putL (l.take i)) wr HI.out.1 (by omega) hy3 hy2
          have e1 : n + (putL (l.take (i + 1))).length = n + (putL (l.take i)).length + 9 := by rw [hT, putB_s hlay]; simp [le4_len]; omega
          have e2 : m ++ putL (l.take (i + 1)) = m ++ putL (l.take i) ++ [1#8] ++ le4 y.frm ++ le4 y.n := by rw [hT, putB_s hlay]; simp
          rw [e1, e2]; exact h
        clear hT hle hnn hy hap hv
        go_wp2_with (go_at_call 91; refine FP.out.mono ?_; rintro e w2 ⟨ao2, c2, rfl, ho2, hg2⟩; have H2 : Hid (Own N w2 (.slice ao2 (n + (putL (l.take (i + 1))).length) c2) (m ++ putL (l.take (i + 1))) ∧ Grw N ao ao2 w w2) := ⟨ho2, HI.out.2.trans hg2⟩; clear FP ho2 hg2)
        exact ⟨⟨i + 1, ao2, c2, by omega, rfl, by go_num, H2⟩, by simp [intOf]; omega⟩
      · have FP : Hid (Calls Tryd.prog 87 #[.agg #[.slice (some ⟨B2, off2, none⟩) y.n c2], .slice ao' (n + (putL (l.take i)).length) c'] wr (PutP N ao' wr (n + (putL (l.take (i + 1))).length) (m ++ putL (l.take (i + 1))))) := by
          have h := lput_any N B2 off2 y.n c2 y.b ao' (n + (putL (l.take i)).length) c' (m ++ putL (l.take i)) wr HI.out.1 (by omega) hy1 hy2 hb2 hb1 (fun B' off' e => by injection e with e; injection e with e1 e2; subst e1; exact hap _ _ _ _ rfl)
          have e1 : n + (putL (l.take (i + 1))).length = n + (putL (l.take i)).length + (5 + y.n) := by rw [hT, putB_l hlay]; simp [le4_len, hb2]; omega
          have e2 : m ++ putL (l.take (i + 1)) = m ++ putL (l.take i) ++ [2#8] ++ le4 y.n ++ y.b := by rw [hT, putB_l hlay]; simp
          rw [e1, e2]; exact h
        clear hT hle hnn hy hap hv hb1 hb2 hb3 hb4
        go_wp2_with (go_at_call 87; refine FP.out.mono ?_; rintro e w2 ⟨ao2, c3, rfl, ho2, hg2⟩; have H2 : Hid (Own N w2 (.slice ao2 (n + (putL (l.take (i + 1))).length) c3) (m ++ putL (l.take (i + 1))) ∧ Grw N ao ao2 w w2) := ⟨ho2, HI.out.2.trans hg2⟩; clear FP ho2 hg2)
        exact ⟨⟨i + 1, ao2, c3, by omega, rfl, by go_num, H2⟩, by simp [intOf]; omega⟩
    · obtain rfl : i = nl := by omega
      have x1 : ¬ ((i : Nat) : Int) < (i : Int) := by omega
      have HT : Hid (l.take i = l) := List.take_of_length_le (by have := HNL.out; omega)
      have H2 : Hid (PutP N ao w (n + (putL l).length) (m ++ putL l) (.returned (.slice ao' (n + (putL (l.take i)).length) c')) wr) := by
        show PutP _ _ _ _ _ _ _
        have h := HI.out
        rw [HT.out] at h ⊢
        exact ⟨ao', c', rfl, h.1, h.2⟩
      go_wp2
      go_ret
      exact H2.out
end Go.Proofs.YtdfbfheceobboaaDoor
