import Derived.Test.YtgpnbiaghokjkaaDoorR4App
import Derived.Laws.BytesString
import Derived.Test.YtgpnbiaghokjkaaDoorD21Math
import Derived.Deep.RegionHeld3

/-! The code's chip: where it lies in memory. What it holds is told as the document's chip (RS); its mask is a text of its own that says the same of every byte of a page. -/
namespace Go.Proofs.YtgpnbiaghokjkaaDoor
open Go.RowKit

/-- A string's bytes. -/
def StrIs (S : ByteArray) (m : List By) : Prop := S.size = m.length ∧ ∀ i, (h : i < S.size) → (S[i]'h).toNat = (m.getD i 0).toNat

/-- What a mask kept says of the mask that was handed in. -/
def MskIs (cells : Int) (mask : List By) (S : ByteArray) : Prop := ∃ m, StrIs S m ∧ m ≠ [] ∧ ∀ i : Nat, (i : Int) < 32 * cells → bitsAt m i = bitsAt mask i

def RS.ccells (s : RS) (F : RF) (S : ByteArray) : List Value := s.c.vals ++ [.slice (some ⟨F.pB, 0, none⟩) s.pages.length F.pcap, .slice (some ⟨F.eB, 0, none⟩) s.erases.length F.ecap, .slice (some ⟨F.bB, 0, none⟩) s.blown.length F.bcap,
  .int .i64 s.n, .bool s.gone, .bool (decide (0 ≤ s.wait)), .int .i64 (s.wait.toNat : Int), .string S]

structure CAt (w : World) (F : RF) (s : RS) (S : ByteArray) : Prop where
  row : Row w F.g 80 (s.ccells F S)
  len : F.ps.length = s.pages.length
  pg : Pre w F.pB 57 (List.zipWith pgVal F.ps s.pages)
  page : ∀ (i : Nat) (q : Nat × Nat) (p : List (List By)), F.ps[i]? = some q → s.pages[i]? = some p → Pre w q.1 56 (p.flatten.map B8)
  er : Pre w F.eB 3 (s.erases.map (Value.int .i64))
  bl : Pre w F.bB 4 (s.blown.map Value.bool)
  mb : F.mb = none
  nd : F.blocks.Nodup
  ok : s.Ok
  wt : -1 ≤ s.wait
  msk : 0 ≤ s.wait → MskIs s.c.cells s.mask S

theorem CAt.blt {w : World} {F : RF} {s : RS} {S : ByteArray} (h : CAt w F s S) : ∀ B ∈ F.blocks, B < w.heap.size := by
  intro B hB
  simp only [RF.blocks, List.mem_cons, List.mem_append, h.mb, Option.toList, List.not_mem_nil, or_false] at hB
  rcases hB with rfl | rfl | rfl | rfl | hB
  · exact h.row.lt
  · exact h.pg.lt
  · exact h.er.lt
  · exact h.bl.lt
  · obtain ⟨q, hq, rfl⟩ := List.mem_map.1 hB
    obtain ⟨i, hi⟩ := List.mem_iff_getElem?.1 hq
    have hil : i < F.ps.length := (List.getElem?_eq_some_iff.1 hi).1
    exact (h.page i q (s.pages[i]'(by rw [← h.len]; exact hil)) hi (List.getElem?_eq_getElem _)).lt
theorem CAt.keep {w w' : World} {F : RF} {s : RS} {S : ByteArray} (h : CAt w F s S) (hb : ∀ B ∈ F.blocks, w'.heap[B]? = w.heap[B]?) : CAt w' F s S := by
  refine ⟨(hb F.g (by simp [RF.blocks])).trans h.row, h.len, h.pg.of_block (hb _ (by simp [RF.blocks])), fun i q p hq hp => (h.page i q p hq hp).of_block (hb _ ?_), h.er.of_block (hb _ (by simp [RF.blocks])), h.bl.of_block (hb _ (by simp [RF.blocks])), h.mb, h.nd, h.ok, h.wt, h.msk⟩
  have := List.mem_of_getElem? hq
  simp only [RF.blocks, List.mem_cons, List.mem_append, List.mem_map]
  exact .inr (.inr (.inr (.inr (.inl ⟨q, this, rfl⟩))))
theorem CAt.below {w w' : World} {F : RF} {s : RS} {S : ByteArray} {N : Nat} (h : CAt w F s S) (hb : Below N w w') (hN : w.heap.size ≤ N) : CAt w' F s S :=
  h.keep fun B hB => hb.block B (Nat.lt_of_lt_of_le (h.blt B hB) hN)

theorem CAt.cPages {w : World} {F : RF} {s : RS} {S : ByteArray} (h : CAt w F s S) : w.cell? ⟨F.g, 7, none⟩ = some (.slice (some ⟨F.pB, 0, none⟩) s.pages.length F.pcap) := h.row.cell 7 _ rfl
theorem CAt.cEr {w : World} {F : RF} {s : RS} {S : ByteArray} (h : CAt w F s S) : w.cell? ⟨F.g, 8, none⟩ = some (.slice (some ⟨F.eB, 0, none⟩) s.erases.length F.ecap) := h.row.cell 8 _ rfl
theorem CAt.cBl {w : World} {F : RF} {s : RS} {S : ByteArray} (h : CAt w F s S) : w.cell? ⟨F.g, 9, none⟩ = some (.slice (some ⟨F.bB, 0, none⟩) s.blown.length F.bcap) := h.row.cell 9 _ rfl
end Go.Proofs.YtgpnbiaghokjkaaDoor


/-! The code's chip: within, at of a mask, ask, askPage, askCell, askFuse, Acts, Out, Restore. -/
namespace Go.Proofs.YtgpnbiaghokjkaaDoor
open Go.RowKit

set_option maxHeartbeats 1000000 in
set_option maxRecDepth 100000 in
theorem cwithin_any (n lo hi : Int) (b : Bool) (hb : decide (lo ≤ n ∧ n ≤ hi) = b) (w : World) :
    Calls Tryd.prog 50 #[.int .i64 n, .int .i64 lo, .int .i64 hi] w fun e w' => e = .returned (.bool b) ∧ w' = w := by
  have HB : Hid (decide (lo ≤ n ∧ n ≤ hi) = b) := hb
  clear hb
  by_cases h1 : lo ≤ n
  · have b1 : decide (lo ≤ n) = true := by simpa using h1
    by_cases h2 : n ≤ hi
    · have b2 : decide (n ≤ hi) = true := by simpa using h2
      go_enter Tryd.func50, Tryd.ntmps50
      go_wp2
      go_ret
      exact ⟨by rw [← HB.out]; simp [h1, h2], rfl⟩
    · have b2 : decide (n ≤ hi) = false := by simpa using h2
      go_enter Tryd.func50, Tryd.ntmps50
      go_wp2
      go_ret
      exact ⟨by rw [← HB.out]; simp [h1, h2], rfl⟩
  · have b1 : decide (lo ≤ n) = false := by simpa using h1
    go_enter Tryd.func50, Tryd.ntmps50
    go_wp2
    go_ret
    exact ⟨by rw [← HB.out]; simp; omega, rfl⟩

end Go.Proofs.YtgpnbiaghokjkaaDoor


/-! The code's chip: act, lower, Program. -/
namespace Go.Proofs.YtgpnbiaghokjkaaDoor
open Go.RowKit

end Go.Proofs.YtgpnbiaghokjkaaDoor


/-! A drawn region by an invariant over what has come up: one step an operation, whatever the number of orders. -/
namespace Go.Proofs.YtgpnbiaghokjkaaDoor
open Go.RowKit

def onesOf (o : Oper) : List Nat := (o.after.toList.filter (Region.binds .any)).map (·.on)

/-- Each operation waits for earlier ones alone. -/
def dagB (ops : Array Oper) : Bool := (List.range ops.size).all fun i => ((ops[i]?).map fun o => (onesOf o).all (· < i)).getD true

/-- 'L' with number 'i' besides. -/
def upd (L : Nat → Bool) (i : Nat) : Nat → Bool := fun j => if j = i then true else L j

/-- One operation keeps the invariant. -/
def StepI (P : Program) (ops : Array Oper) (I : (Nat → Bool) → Act → World → Prop) (Q : Exit → Act → World → Prop) (i : Nat) (o : Oper) : Prop :=
  ∀ (L : Nat → Bool) (a : Act) (w : World), I L a w → L i = false → (∀ j ∈ onesOf o, L j = true) → ∀ K : Act → World → Prop, Shut (∀ a' w', I (upd L i) a' w' → K a' w') →
    if Region.wanted o (yielded ops a.tmps) = true then Oper.wp P o a w K Q else K (a.put o.dst undef) w

/-- All operations of a list, the first of them number 'n'. -/
def StepsI (P : Program) (ops : Array Oper) (I : (Nat → Bool) → Act → World → Prop) (Q : Exit → Act → World → Prop) : Nat → List Oper → Prop
  | _, [] => True
  | n, o :: r => StepI P ops I Q n o ∧ StepsI P ops I Q (n + 1) r

theorem StepsI.at {P : Program} {ops : Array Oper} {I : (Nat → Bool) → Act → World → Prop} {Q : Exit → Act → World → Prop} : ∀ (l : List Oper) (n : Nat), StepsI P ops I Q n l → ∀ (i : Nat) (o : Oper), l[i]? = some o → StepI P ops I Q (n + i) o
  | [], _, _, _, _, h => by simp at h
  | x :: r, n, hs, 0, o, h => by
    simp at h; subst h; exact hs.1
  | x :: r, n, hs, i + 1, o, h => by
    have := StepsI.at r (n + 1) hs.2 i o (by simpa using h)
    rw [show n + (i + 1) = n + 1 + i by omega]; exact this

def asL (l : Array Bool) : Nat → Bool := fun j => l.getD j false

theorem asL_set (l : Array Bool) (i : Nat) (h : i < l.size) : asL (l.setIfInBounds i true) = upd (asL l) i := by
  funext j
  unfold asL upd
  by_cases hj : j = i
  · subst hj; simp [h]
  · rw [if_neg hj, getD_set_ne false (fun e => hj e.symm)]

theorem wp_region_inv {P : Program} {ops : Array Oper} {Q : Exit → Act → World → Prop} {id : Nat} {a : Act} {w : World} (I : (Nat → Bool) → Act → World → Prop) (hm : P.follows .mixedOrders = true) (hd : dagB ops = true)
    (h0 : I (fun _ => false) a w.drew) (hs : StepsI P ops I Q 0 ops.toList) (he : ∀ L a' w', (∀ j, j < ops.size → L j = true) → I L a' w' → Q .normal a' w') : (Code.region id ops true).wp P Q a w := by
  have hall : ∀ l : Array Bool, l.size = ops.size → Region.ready .any ops l = [] → ∀ j, j < ops.size → asL l j = true := by
    intro l hl hr j
    induction j using Nat.strongRecOn with
    | _ j ih =>
      intro hj
      cases hb : asL l j with
      | true => rfl
      | false =>
        exfalso
        have hm : j ∈ Region.ready .any ops l := by
          rw [mem_ready]
          refine ⟨?_, ops[j], Array.getElem?_eq_getElem hj, fun e hme hbe => ?_⟩
          · unfold asL at hb
            simp [hl, hj] at hb ⊢; exact hb
          · have h1 : e.on ∈ onesOf ops[j] := by
              unfold onesOf
              exact List.mem_map.2 ⟨e, List.mem_filter.2 ⟨by simpa using hme, hbe⟩, rfl⟩
            unfold dagB at hd
            rw [List.all_eq_true] at hd
            have h2 := hd j (List.mem_range.2 hj)
            rw [Array.getElem?_eq_getElem hj] at h2
            simp only [Option.map_some, Option.getD_some, List.all_eq_true, decide_eq_true_eq] at h2
            have h3 := h2 _ h1
            exact ih _ h3 (by omega)
        rw [hr] at hm; cases hm
  have hmain : ∀ (fuel : Nat) (l : Array Bool) (a : Act) (w : World), l.size = ops.size → (l.toList.filter (! ·)).length ≤ fuel → I (asL l) a w → wpAny P .any ops Q fuel l a w := by
    intro fuel
    induction fuel with
    | zero =>
      intro l a w hl hc hI
      have hr : Region.ready .any ops l = [] := by
        apply List.eq_nil_iff_forall_not_mem.2
        intro j hj
        obtain ⟨h1, o, ho, _⟩ := mem_ready.1 hj
        have hlt : j < l.size := by rw [hl]; exact (Array.getElem?_eq_some_iff.1 ho).1
        have : l[j] ∈ l.toList.filter (! ·) := List.mem_filter.2 ⟨by simp, by simp [hlt] at h1; simp [h1]⟩
        have h2 := List.length_pos_of_mem this
        omega
      exact ⟨hr, he _ _ _ (hall l hl hr) hI⟩
    | succ fuel ih =>
      intro l a w hl hc hI
      refine ⟨fun hr => he _ _ _ (hall l hl hr) hI, fun i hi => ?_⟩
      obtain ⟨h1, o, ho, h2⟩ := mem_ready.1 hi
      have hlt : i < l.size := by rw [hl]; exact (Array.getElem?_eq_some_iff.1 ho).1
      have hfi : asL l i = false := by unfold asL; simp [hlt] at h1 ⊢; exact h1
      have hst := StepsI.at ops.toList 0 hs i o (by simpa using ho)
      rw [Nat.zero_add] at hst
      refine wpOp_step ho fun K hK => hst (asL l) a w hI hfi ?_ K ?_
      · intro j hj
        unfold onesOf at hj
        obtain ⟨e, hme, rfl⟩ := List.mem_map.1 hj
        obtain ⟨h3, h4⟩ := List.mem_filter.1 hme
        exact h2 e (by simpa using h3) h4
      · intro a' w' hI'
        refine hK a' w' (ih _ a' w' (by simpa using hl) ?_ (by rw [asL_set l i hlt]; exact hI'))
        have h5 : l[i] = false := by simp [hlt] at h1; exact h1
        have h6 : ((l.setIfInBounds i true).toList.filter (! ·)).length + 1 ≤ (l.toList.filter (! ·)).length := by
          rw [Array.toList_setIfInBounds]
          clear hI' hK hI hst hfi hc hl h2
          have h7 : l.toList[i]? = some false := by simp [hlt, h5]
          generalize l.toList = ll at h7 ⊢
          clear hi h1 h5 hlt ho
          induction ll generalizing i with
          | nil => simp at h7
          | cons y r ihl =>
            cases i with
            | zero => simp at h7; subst h7; simp
            | succ i =>
              have := ihl i (by simpa using h7)
              cases y <;> simp at this ⊢ <;> omega
        omega
  refine wp_region_any hm ?_
  refine hmain _ _ _ _ (by simp) ?_ ?_
  · refine Nat.le_trans (List.length_filter_le _ _) (by simp)
  · have : asL (Array.replicate ops.size false) = fun _ => false := by
      funext j; unfold asL
      by_cases hj : j < ops.size <;> simp [hj]
    rw [this]; exact h0

/-- The invariant, once for each operation. -/
theorem StepsI.cons {P : Program} {ops : Array Oper} {I : (Nat → Bool) → Act → World → Prop} {Q : Exit → Act → World → Prop} {n : Nat} {o : Oper} {r : List Oper} (h : StepI P ops I Q n o) (hr : StepsI P ops I Q (n + 1) r) : StepsI P ops I Q n (o :: r) := ⟨h, hr⟩
theorem StepsI.nil {P : Program} {ops : Array Oper} {I : (Nat → Bool) → Act → World → Prop} {Q : Exit → Act → World → Prop} {n : Nat} : StepsI P ops I Q n [] := trivial
end Go.Proofs.YtgpnbiaghokjkaaDoor


/-! append onto an empty slice that was just made. -/
namespace Go.Proofs.YtgpnbiaghokjkaaDoor
open Go.RowKit

theorem ints_one (l : List Int) : ∀ u ∈ l.map (Value.int .i64), u.oneCell' = true := by
  intro u hu; simp at hu; obtain ⟨x, _, rfl⟩ := hu; rfl
theorem bools_one (l : List Bool) : ∀ u ∈ l.map Value.bool, u.oneCell' = true := by
  intro u hu; simp at hu; rcases hu with ⟨_, rfl⟩ | ⟨_, rfl⟩ <;> rfl
theorem owns_kept {w w' : World} {N e size n : Nat} {ao : Option Addr} {c : Nat} {xs : List Value} (h : w.ownsRow N e size (.slice ao n c) n xs) (hb : ∀ g, ao = some ⟨g, 0, none⟩ → w'.heap[g]? = w.heap[g]?) : w'.ownsRow N e size (.slice ao n c) n xs := by
  refine ⟨h.1, ?_⟩
  rcases h.2 with h1 | ⟨g, c', cur, h1, h2, h3, h4⟩
  · exact .inl h1
  · injection h1 with e1 e2 e3
    subst e3
    exact .inr ⟨g, c, cur, by rw [e1], h2, (hb g e1).trans h3, h4⟩

/-- append onto a slice without elements and without room: no block that was there is written. -/
theorem run_append_fresh {T e size bytes : Nat} {z : Value} (E : ElT T e size bytes z) (N : Nat) (w : World) (ty : TypeId) (g1 : Nat) (hg : w.heap[g1]? = some (.cells #[] e)) (hN1 : N ≤ g1)
    (ao : Option Addr) (n cap : Nat) (news : List Value) (hn : news.length = n * size) (hb : IsL w ao news) (h1 : ∀ u ∈ news, u.oneCell' = true) (hnil : ao = none → cap = 0) (hm : n ≤ maxLen) (hl : n * bytes ≤ 140737488355328) :
    ∃ g' cap' w', (Builtin.append_ #[T, T] ty #[.slice (some ⟨g1, 0, none⟩) 0 0, .slice ao n cap]).run Tryd.prog w = .ok (.slice (some ⟨g', 0, none⟩) n cap') w' ∧ w'.ownsRow N e size (.slice (some ⟨g', 0, none⟩) n cap') n news ∧ Below w.heap.size w w' ∧ (g' = g1 ∨ g' = w.heap.size) ∧ N ≤ g' ∧ g' < w'.heap.size := by
  have hlt : g1 < w.heap.size := (Array.getElem?_eq_some_iff.1 hg).1
  have hown : w.ownsRow N e size (.slice (some ⟨g1, 0, none⟩) 0 0) 0 [] := ⟨by simp, .inr ⟨g1, 0, #[], rfl, hN1, hg, by simp, by unfold maxLen; omega, by simp, by simp⟩⟩
  obtain ⟨i0, hi, hz0, hz1, hz2⟩ := info_parts E.info
  have none_case : n = 0 → (Builtin.append_ #[T, T] ty #[.slice (some ⟨g1, 0, none⟩) 0 0, .slice ao n cap]).run Tryd.prog w = .ok (.slice (some ⟨g1, 0, none⟩) 0 0) w → ∃ g' cap' w', (Builtin.append_ #[T, T] ty #[.slice (some ⟨g1, 0, none⟩) 0 0, .slice ao n cap]).run Tryd.prog w = .ok (.slice (some ⟨g', 0, none⟩) n cap') w' ∧ w'.ownsRow N e size (.slice (some ⟨g', 0, none⟩) n cap') n news ∧ Below w.heap.size w w' ∧ (g' = g1 ∨ g' = w.heap.size) ∧ N ≤ g' ∧ g' < w'.heap.size := by
    intro h0 hr
    subst h0
    have : news = [] := List.eq_nil_of_length_eq_zero (by simpa using hn)
    subst this
    exact ⟨g1, 0, w, hr, hown, Below.refl _ _, .inl rfl, hN1, hlt⟩
  have some_case : ∀ ad : Addr, ao = some ad → (∀ j u, news[j]? = some u → w.cell? (ad.add j) = some u) → ∃ g' cap' w', (Builtin.append_ #[T, T] ty #[.slice (some ⟨g1, 0, none⟩) 0 0, .slice ao n cap]).run Tryd.prog w = .ok (.slice (some ⟨g', 0, none⟩) n cap') w' ∧ w'.ownsRow N e size (.slice (some ⟨g', 0, none⟩) n cap') n news ∧ Below w.heap.size w w' ∧ (g' = g1 ∨ g' = w.heap.size) ∧ N ≤ g' ∧ g' < w'.heap.size := by
    rintro ad rfl hnews
    by_cases h0 : n = 0
    · refine none_case h0 ?_
      subst h0
      have : news = [] := List.eq_nil_of_length_eq_zero (by simpa using hn)
      subst this
      simp [Builtin.append_, run_underlying E.und, sizeOf, typeInfo, hi, Builtin.lenOf, Builtin.firstCells, loadCells, loadCellsFrom, storeCells]
    · obtain ⟨ao', cap', w', hrun, ho, _⟩ := run_append_gen E N w w ty _ 0 0 [] hown (by omega) (Below.refl _ _) (some ad) n cap news hn hb h1 (by simp) (by omega) (by rw [Nat.zero_add]; exact hl)
      have hr := run_append_grow (P := Tryd.prog) w T ty e i0 z E.und hi hz0 ⟨g1, 0, none⟩ 0 0 [] (by simp) (by simp) ad n cap news (by rw [hz1]; exact hn) hnews (by omega) (by unfold maxLen at hm; omega) (growslice_fits (by omega) (by rw [hz2, Nat.zero_add]; exact hl))
      rw [hrun] at hr
      injection hr with e1 e2
      injection e1 with e3 e4 e5
      subst e3
      simp only [Nat.zero_add, List.nil_append] at hrun ho
      refine ⟨w.heap.size, cap', w', hrun, ho, ?_, .inr rfl, by omega, ?_⟩
      · rw [e2]; exact ((Below.refl _ _).drew).alloc (Nat.le_refl _) _
      · rw [e2]; simp
  rcases hb with rfl | ⟨B, off, rfl, hc⟩
  · have hn0 : n = 0 := by
      have hp := E.pos
      have h0 : n * size = 0 := by simpa using hn.symm
      rcases Nat.mul_eq_zero.1 h0 with h | h
      · exact h
      · omega
    cases ao with
    | none =>
      refine none_case hn0 ?_
      rw [hnil rfl, hn0]
      have := run_append_owned_none (P := Tryd.prog) (w := w) N T ty e i0 size E.und hi _ 0 [] hown
      simpa using this
    | some ad => exact some_case ad rfl (by simp)
  · refine some_case _ rfl ?_
    intro j u hu
    rw [Addr.add_mid]
    exact hc j u hu

/-- Where what append answers lies: in the row that it was, or in a new block. -/
theorem append_where {T e size bytes : Nat} {z : Value} (E : ElT T e size bytes z) (N : Nat) (w : World) (ty : TypeId) (aoD : Option Addr) (nD capD : Nat) (vs : List Value) (hown : w.ownsRow N e size (.slice aoD nD capD) nD vs)
    (ad : Addr) (n cap : Nat) (news : List Value) (hn : news.length = n * size) (hnews : ∀ j u, news[j]? = some u → w.cell? (ad.add j) = some u) (h1 : ∀ u ∈ news, u.oneCell' = true) (hn0 : 0 < n) (hm : nD + n ≤ maxLen) (hl : (nD + n) * bytes ≤ 140737488355328)
    (ao' : Option Addr) (m cap' : Nat) (w' : World) (hrun : (Builtin.append_ #[T, T] ty #[.slice aoD nD capD, .slice (some ad) n cap]).run Tryd.prog w = .ok (.slice ao' m cap') w') : (ao' = aoD ∧ w'.heap.size = w.heap.size) ∨ (ao' = some ⟨w.heap.size, 0, none⟩ ∧ Below w.heap.size w w' ∧ w.heap.size < w'.heap.size) := by
  obtain ⟨i0, hi, hz0, hz1, hz2⟩ := info_parts E.info
  subst hz1 hz2
  have hnew : ∀ o : Obj, Below w.heap.size w (w.drew.alloc o) ∧ w.heap.size < (w.drew.alloc o).heap.size := fun o => ⟨((Below.refl _ _).drew).alloc (Nat.le_refl _) _, by simp⟩
  rcases hown.2 with ⟨e1, e2⟩ | ⟨g, c, cur, e1, hbg, hg, hnc, hcm, hcs, htake⟩
  · injection e1 with e3 e4 e5
    subst e3 e2 e5
    have hr := run_append_nil (P := Tryd.prog) w T ty e i0 z E.und hi hz0 ad n cap news hn hnews (by omega) (by unfold maxLen at hm; omega) (by have hb := hl; simp only [Nat.zero_add] at hb; omega)
    rw [hrun] at hr
    injection hr with e6 e7
    injection e6 with e8
    refine .inr ⟨e8, ?_⟩
    rw [e7]; exact hnew _
  · injection e1 with e3 e4 e5
    subst e3 e5
    by_cases hroom : nD + n ≤ capD
    · have hfit : nD * i0.size + news.length ≤ cur.size := by rw [hn, hcs, ← Nat.add_mul]; exact Nat.mul_le_mul_right _ hroom
      have hr := run_append_room (P := Tryd.prog) w T ty e i0 E.und hi g nD capD cur hg ad n cap news hn hnews h1 hroom hfit
      rw [hrun] at hr
      injection hr with e6 e7
      injection e6 with e8
      refine .inl ⟨e8, ?_⟩
      rw [e7]; simp
    · have holds : ∀ j u, vs[j]? = some u → w.cell? ((⟨g, 0, none⟩ : Addr).add j) = some u := hown.cells (g := g) rfl
      have hr := run_append_grow (P := Tryd.prog) w T ty e i0 z E.und hi hz0 ⟨g, 0, none⟩ nD capD vs hown.1 holds ad n cap news hn hnews (by omega) (by unfold maxLen at hm; omega) (growslice_fits (by omega) hl)
      rw [hrun] at hr
      injection hr with e6 e7
      injection e6 with e8
      refine .inr ⟨e8, ?_⟩
      rw [e7]; exact hnew _

theorem step_append_fresh {T e size bytes : Nat} {z : Value} (E : ElT T e size bytes z) {ops : Array Oper} {o : Oper} {a : Act} {w : World} {K : Act → World → Prop} {Q : Exit → Act → World → Prop} {X : Prop} (hgd : o.guard = none) (s x : Operand)
    (ho : o.op = .call { callee := .builtin .append, args := #[s, x], argTypes := #[T, T] })
    (N : Nat) (g1 : Nat) (hs : a.eval s = .slice (some ⟨g1, 0, none⟩) 0 0) (hg : w.heap[g1]? = some (.cells #[] e)) (hN1 : N ≤ g1)
    (ao : Option Addr) (n cap : Nat) (news : List Value) (hx : a.eval x = .slice ao n cap) (hn : news.length = n * size) (hb : IsL w ao news) (h1 : ∀ u ∈ news, u.oneCell' = true) (hnil : ao = none → cap = 0) (hm : n ≤ maxLen) (hl : n * bytes ≤ 140737488355328)
    (h : ∀ g' cap' w', w'.ownsRow N e size (.slice (some ⟨g', 0, none⟩) n cap') n news → Below w.heap.size w w' → (g' = g1 ∨ g' = w.heap.size) → N ≤ g' → g' < w'.heap.size → K (a.put o.dst (.slice (some ⟨g', 0, none⟩) n cap')) w') :
    if Region.wanted o (yielded ops a.tmps) = true then Oper.wp Tryd.prog o a w K Q else X := by
  have hw : Region.wanted o (yielded ops a.tmps) = true := by simp [Region.wanted, hgd]
  rw [if_pos hw]
  obtain ⟨g', cap', w', hrun, h2, h3, h4, h5, h6⟩ := run_append_fresh E N w o.type g1 hg hN1 ao n cap news hn hb h1 hnil hm hl
  unfold Oper.wp execOp
  simp only [ho, resolve, invoke, builtin, Sem.run_bind, Sem.run_pure, Result.andThen_ok, List.map_toArray, List.map_cons, List.map_nil, hs, hx, hrun]
  exact h g' cap' w' h2 h3 h4 h5 h6

end Go.Proofs.YtgpnbiaghokjkaaDoor
