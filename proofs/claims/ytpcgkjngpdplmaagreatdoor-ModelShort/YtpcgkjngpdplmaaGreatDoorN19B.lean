import Derived.Test.YtpcgkjngpdplmaaGreatDoorN19K
import Derived.Shelf.Abstract

/-! The code's model: what a teller does. (Printed by tools/genn19.py.) -/
namespace Go.Proofs.YtpcgkjngpdplmaaGreatDoor
open Go.RowKit Go.Maps
set_option linter.unusedVariables false
set_option linter.unusedSimpArgs false

theorem grown_row {W W' : World} (h : W.grownBy W' none) (b : Nat) : W.grownBy W' (some b) := ⟨h.os, h.tape, h.output, h.size, fun i hi _ => h.block i hi (fun e => by cases e)⟩
/-- A teller: it holds an answer, and the states that were told beside it. -/
def telV (ab nb : Nat) : Value := .func (.func 26) #[] #[.pointer (some ⟨ab, 0, none⟩), .pointer (some ⟨nb, 0, none⟩)]
structure Tel (ab nb mb : Nat) (a : AN) (n : Nat) (L : List CS) (W : World) : Prop where
  ans : Row W ab 39 (anC a 0)
  nxt : Row W nb 70 [.map (some mb)]
  set : KSet Tryz.prog 67 csV unitElem W mb n L
theorem Row.notMap {W : World} {g t b n : Nat} {cs : List Value} {L : List CS} (h : Row W g t cs) (hm : KSet Tryz.prog 67 csV unitElem W b n L) : g ≠ b := by
  rintro rfl
  obtain ⟨D, ⟨es, clock, h1, _⟩, _⟩ := hm
  have h2 : W.heap[g]? = _ := h
  rw [h1] at h2
  injection h2 with h2
  cases h2
theorem Row.grown {W W' : World} {g t b : Nat} {cs : List Value} (h : Row W g t cs) (hg : W.grownBy W' (some b)) (hne : g ≠ b) : Row W' g t cs := (hg.block g h.lt (fun e => by injection e with e; exact hne e)).trans h
theorem Tel.grown {ab nb mb : Nat} {a : AN} {n : Nat} {L : List CS} {W W' : World} (h : Tel ab nb mb a n L W) (hg : W.grownBy W' none) : Tel ab nb mb a n L W' :=
  ⟨(hg.block ab h.ans.lt (fun e => by cases e)).trans h.ans, (hg.block nb h.nxt.lt (fun e => by cases e)).trans h.nxt, h.set.kept hg (fun e => by cases e)⟩
theorem Tel.keep {ab nb mb : Nat} {a : AN} {n : Nat} {L : List CS} {W W' : World} (h : Tel ab nb mb a n L W) (hb : Below W.heap.size W W') : Tel ab nb mb a n L W' := h.grown (grown_of_below hb)
/-- What is left behind the telling of T. -/
def TelP (ab nb mb : Nat) (a : AN) (n : Nat) (L : List CS) (T : TL) (W : World) (e : Ending) (W' : World) : Prop :=
  e = .returned (.tuple #[]) ∧ Tel ab nb mb a (n + (hitC a T).length) ((hitC a T).reverse ++ L) W' ∧ W.grownBy W' (some mb)
theorem an0_wf {e : Int} (h : -9223372036854775808 ≤ e ∧ e ≤ 9223372036854775807) : (an0 e).Wf := ⟨h, by show -9223372036854775808 ≤ (0 : Int) ∧ (0 : Int) ≤ 9223372036854775807; omega, by show (List.replicate 32 (0 : By)).length = 32; simp⟩

set_option maxHeartbeats 2000000 in
set_option maxRecDepth 100000 in
theorem tell_any {ab nb mb : Nat} {a : AN} {n : Nat} {L : List CS} {w : World} (h : Tel ab nb mb a n L w) (ha : a.Wf) (hn : n < 4611686018427387904) (x : AN) (hx : x.Wf) (s : CS) (hs : s.Wf) :
    Calls Tryz.prog 26 #[.agg (anC x 0).toArray, csV s, .pointer (some ⟨ab, 0, none⟩), .pointer (some ⟨nb, 0, none⟩)] w (TelP ab nb mb a n L [(x, s)] w) := by
  obtain ⟨w1, hw1⟩ : ∃ w1, w1 = (w.alloc (.cells (anC x 0).toArray 39)).alloc (.cells (csC s).toArray 67) := ⟨_, rfl⟩
  have hb1 : Below w.heap.size w w1 := by rw [hw1]; exact ((Below.refl _ _).alloc (Nat.le_refl _) _).alloc (by simp) _
  have r1 : Row w1 w.heap.size 39 (anC x 0) := by rw [hw1]; exact (Row.at w 39 _ _ _ rfl rfl).alloc _
  have r2 : Row w1 (w.heap.size + 1) 67 (csC s) := by rw [hw1]; exact Row.at _ _ _ _ _ (by simp) rfl
  have h1 := h.keep hb1
  have ra := h1.ans
  have rn := h1.nxt.cell 0 _ rfl
  have HS : Hid (KSet Tryz.prog 67 csV unitElem w1 mb n L) := h1.set
  have HB : Hid (w.grownBy w1 none) := grown_of_below hb1
  have HT : Hid (Tel ab nb mb a n L w1) := h1
  have HQ := eqAN_any x a hx ha _ rfl
  have la : Hid ((anC x 0).length = 36) := anC_len hx.h
  have lb : Hid ((anC a 0).length = 36) := anC_len ha.h
  have lc : Hid ((csC s).length = 19) := csC_len hs.len
  obtain ⟨kl, hkl⟩ := cs_keyOf hs
  have HM : Hid (n < maxLen) := by show n < 2 ^ 63 - 1; omega
  have HH : Hid (hitC a [(x, s)] = if anEq x a then [s] else []) := by
    unfold hitC
    rw [List.filterMap_cons]
    split <;> (rename_i hh; split at hh <;> simp_all)
  obtain ⟨q, hq⟩ : ∃ q, anEq x a = q := ⟨_, rfl⟩
  rw [hq] at HQ HH
  unfold TelP
  rw [HH.out]
  clear h h1 hb1 ha hx hs hq hn
  change Calls Tryz.prog 26 #[.agg (anC x 0).toArray, .agg (csC s).toArray, .pointer (some ⟨ab, 0, none⟩), .pointer (some ⟨nb, 0, none⟩)] w _
  generalize anC x 0 = X at *
  generalize anC a 0 = A at *
  go_enter Tryz.func26, Tryz.ntmps26
  cases q with
  | false =>
    go_wp2_with (first
      | (rw [← hw1]; have hz := hw1; clear hz hw1)
      | (refine wpList_load_whole_g ?_ 39 (.tmp 4) rfl w.heap.size 39 36 X r1 rfl _ la.out Tryz.underlying39 rfl (by kernel_rfl) ?_; · rfl)
      | (refine wpList_load_whole_g ?_ 39 (.tmp 2) rfl ab 39 36 A ra rfl _ lb.out Tryz.underlying39 rfl (by kernel_rfl) ?_; · rfl))
    go_end0
    exact ⟨rfl, by simpa using HT.out, grown_row HB.out _⟩
  | true =>
    go_wp2_with (first
      | (rw [← hw1]; have hz := hw1; clear hz hw1)
      | (refine wpList_load_whole_g ?_ 39 (.tmp 4) rfl w.heap.size 39 36 X r1 rfl _ la.out Tryz.underlying39 rfl (by kernel_rfl) ?_; · rfl)
      | (refine wpList_load_whole_g ?_ 39 (.tmp 2) rfl ab 39 36 A ra rfl _ lb.out Tryz.underlying39 rfl (by kernel_rfl) ?_; · rfl)
      | (refine wpList_load_whole_g ?_ 67 (.tmp 5) rfl (w.heap.size+1) 67 19 (csC s) r2 rfl _ lc.out Tryz.underlying67 rfl (by kernel_rfl) ?_; · rfl)
      | (refine wpList_put_KSet (P := Tryz.prog) (k := 67) (f := csV) (R := unitElem) rfl (.tmp 9) (.tmp 10) (.tmp 11) 70 rfl 68 cs_keyed Tryz.underlying70 mb n L rfl HS.out HM.out s rfl kl hkl (.agg #[]) rfl (.agg []) [] unitElem_mk ?_; intro w2 hk2 hg2))
    go_end0
    exact ⟨rfl, ⟨HT.out.ans.grown hg2 (HT.out.ans.notMap HS.out), HT.out.nxt.grown hg2 (HT.out.nxt.notMap HS.out), by simpa using hk2⟩, (grown_row HB.out _).trans hg2⟩
end Go.Proofs.YtpcgkjngpdplmaaGreatDoor


/-! The code's model: only, goes. (Printed by tools/genn19.py.) -/
namespace Go.Proofs.YtpcgkjngpdplmaaGreatDoor
open Go.RowKit Go.Maps
set_option linter.unusedVariables false
set_option linter.unusedSimpArgs false

/-- What T has told, from w on. -/
structure TelQ (ab nb mb : Nat) (a : AN) (n : Nat) (L : List CS) (T : TL) (w W : World) : Prop where
  tel : Tel ab nb mb a (n + (hitC a T).length) ((hitC a T).reverse ++ L) W
  grow : w.grownBy W (some mb)
  la : ab < w.heap.size
  ln : nb < w.heap.size
  lm : mb < w.heap.size
theorem grown_refl (w : World) (r : Option Nat) : w.grownBy w r := by
  have := grown_of_below (Below.refl w.heap.size w)
  exact ⟨this.os, this.tape, this.output, this.size, fun i hi _ => this.block i hi (fun e => by cases e)⟩
section
variable {ab nb mb : Nat} {a : AN} {n : Nat} {L : List CS} {T U : TL} {w W W' : World}
theorem TelQ.nil (h : Tel ab nb mb a n L w) : TelQ ab nb mb a n L [] w w := ⟨by simpa [hit_nil] using h, grown_refl _ _, h.ans.lt, h.nxt.lt, h.set.lt⟩
theorem TelQ.keep (h : TelQ ab nb mb a n L T w W) (hb : Below W.heap.size W W') : TelQ ab nb mb a n L T w W' := ⟨h.tel.keep hb, h.grow.trans (grown_row (grown_of_below hb) _), h.la, h.ln, h.lm⟩
theorem TelQ.alloc (h : TelQ ab nb mb a n L T w W) (o : Obj) : TelQ ab nb mb a n L T w (W.alloc o) := h.keep ((Below.refl _ _).alloc (Nat.le_refl _) _)
theorem TelQ.more (h : TelQ ab nb mb a n L T w W) (h2 : TelQ ab nb mb a (n + (hitC a T).length) ((hitC a T).reverse ++ L) U W W') : TelQ ab nb mb a n L (T ++ U) w W' :=
  ⟨by have := h2.tel; rw [hit_append, List.length_append, List.reverse_append, List.append_assoc, ← Nat.add_assoc]; exact this, h.grow.trans h2.grow, h.la, h.ln, h.lm⟩
theorem TelQ.below (h : TelQ ab nb mb a n L T w W) {N : Nat} (hN : N ≤ mb) : Below N w W := below_of_grown h.grow hN (Nat.le_of_lt (Nat.lt_of_le_of_lt hN h.lm))
theorem TelQ.row (h : TelQ ab nb mb a n L T w W) {g t : Nat} {cs : List Value} (hr : Row w g t cs) (hne : g ≠ mb) : Row W g t cs := hr.grown h.grow hne
theorem TelQ.but (h : TelQ ab nb mb a n L T w W) {g : Nat} (hs : SameBut g W W') (hg : w.heap.size ≤ g) : TelQ ab nb mb a n L T w W' := by
  have bl : ∀ i, i < w.heap.size → W'.heap[i]? = W.heap[i]? := fun i hi => hs.block i (by omega)
  refine ⟨⟨(bl ab h.la).trans h.tel.ans, (bl nb h.ln).trans h.tel.nxt, ?_⟩, ⟨hs.os.trans h.grow.os, ?_, ?_, ?_, fun i hi hne => (bl i hi).trans (h.grow.block i hi hne)⟩, h.la, h.ln, h.lm⟩
  · obtain ⟨D, ⟨es, clock, h1, h3⟩, h2⟩ := h.tel.set
    exact ⟨D, ⟨es, clock, (bl mb h.lm).trans h1, h3⟩, h2⟩
  · have := h.grow.tape; have e := hs.tape; simp_all
  · have := h.grow.output; have e := hs.output; simp_all
  · have := h.grow.size; have e := hs.size; omega
end
theorem build_only (e : Int) (w : World) : (Instr.build 39 #[(0, .int .i64 e)]).run Tryz.prog w = .ok (.agg (anC (an0 e) 0).toArray) w := by kernel_rfl
set_option maxHeartbeats 2000000 in
set_option maxRecDepth 100000 in
theorem only_any {ab nb mb : Nat} {a : AN} {n : Nat} {L : List CS} {w : World} (h : Tel ab nb mb a n L w) (ha : a.Wf) (hn : n < 4611686018427387904) (er : Int) (he : -9223372036854775808 ≤ er ∧ er ≤ 9223372036854775807) (s : CS) (hs : s.Wf) :
    Calls Tryz.prog 34 #[telV ab nb, .int .i64 er, csV s] w fun e W' => e = .returned (.tuple #[]) ∧ TelQ ab nb mb a n L [(an0 er, s)] w W' := by
  obtain ⟨w1, hw1⟩ : ∃ w1, w1 = w.alloc (.cells (csC s).toArray 67) := ⟨_, rfl⟩
  have hb1 : Below w.heap.size w w1 := by rw [hw1]; exact (Below.refl _ _).alloc (Nat.le_refl _) _
  have r2 : Row w1 w.heap.size 67 (csC s) := by rw [hw1]; exact Row.at _ _ _ _ _ rfl rfl
  have TE := tell_any (h.keep hb1) ha hn (an0 er) (an0_wf he) s hs
  have HB : Hid (w.grownBy w1 (some mb) ∧ ab < w.heap.size ∧ nb < w.heap.size ∧ mb < w.heap.size) := ⟨grown_row (grown_of_below hb1) _, h.ans.lt, h.nxt.lt, h.set.lt⟩
  have lc : Hid ((csC s).length = 19) := csC_len hs.len
  have BO := build_only er w1
  clear h hb1 ha hs hn he
  change Calls Tryz.prog 34 #[.func (.func 26) #[] #[.pointer (some ⟨ab, 0, none⟩), .pointer (some ⟨nb, 0, none⟩)], .int .i64 er, .agg (csC s).toArray] w _
  go_enter Tryz.func34, Tryz.ntmps34
  go_wp2_with (first
      | (rw [← hw1]; have hz := hw1; clear hz hw1)
      | (refine wpList_load_whole_g ?_ 67 (.tmp 5) rfl w.heap.size 67 19 (csC s) r2 rfl _ lc.out Tryz.underlying67 rfl (by kernel_rfl) ?_; · rfl))
  refine TE.mono ?_
  rintro e w2 ⟨rfl, ht, hg⟩
  dsimp only
  go_wp2
  go_end0
  exact ⟨rfl, ht, HB.out.1.trans hg, HB.out.2.1, HB.out.2.2.1, HB.out.2.2.2⟩

theorem wpList_load_at_g {ops : Array Oper} {rest : List Oper} {op : Oper} {a : Act} {w : World} {Q : Exit → Act → World → Prop} (hw : Region.wanted op (yielded ops a.tmps) = true) (ty : TypeId) (x : Operand) (ho : op.op = .load ty x)
    (g o n : Nat) (cs : List Value) (hr : w.rangeAt g o cs) (hx : a.eval x = .pointer (some ⟨g, o, none⟩)) (d : TypeDesc) (hn : cs.length = n)
    (hu : Tryz.prog.underlying ty = some d) (hd : d.isRow = true) (hi : (Tryz.prog.info? ty).map (·.size) = some n)
    (h : wpList Tryz.prog ops Q rest (a.put op.dst (.agg cs.toArray)) w) : wpList Tryz.prog ops Q (op :: rest) a w := by
  refine wpList_step fun K hK => ?_
  rw [if_pos hw]
  exact wp_load_mid ty x ho g o hx _ d hr hu hd (by rw [hn]; exact hi) (hK _ _ h)
theorem i8_in (x : Int) (h1 : -128 ≤ x) (h2 : x ≤ 127) : IntKind.i8.wrap x = x := by simp only [IntKind.wrap, IntKind.signed, IntKind.bits]; simp; omega
theorem i16_in (x : Int) (h1 : -32768 ≤ x) (h2 : x ≤ 32767) : IntKind.i16.wrap x = x := by simp only [IntKind.wrap, IntKind.signed, IntKind.bits]; simp; omega
abbrev zCS : CS := ⟨List.replicate 8 0, 0, 0, 0, false, 0, 0, 0, 0, 0, false, false⟩
theorem cs_part : ∀ (LS : List CS), (∀ s ∈ LS, s.num.length = 8) → ∀ (t : Nat) (h : t < LS.length), ((LS.flatMap csC).drop (t * 19)).take 19 = csC LS[t]
  | [], _, t, h => by simp at h
  | s :: LS, hl, 0, h => by
    have := csC_len (hl s (List.mem_cons_self ..))
    rw [List.flatMap_cons, Nat.zero_mul, List.drop_zero, List.take_append_of_le_length (by omega), List.take_of_length_le (by omega)]; rfl
  | s :: LS, hl, t + 1, h => by
    have := csC_len (hl s (List.mem_cons_self ..))
    rw [List.flatMap_cons, Nat.succ_mul, List.drop_append, List.drop_of_length_le (by omega), List.nil_append, this, Nat.add_sub_cancel]
    exact cs_part LS (fun u hu => hl u (List.mem_cons_of_mem _ hu)) t (by simpa using h)
theorem goes_take {LS : List CS} {t : Nat} (h : t < LS.length) : goesC (LS.take (t + 1)) = goesC (LS.take t) ++ (if LS[t].cuts < 12 then [(an0 8, { LS[t] with cuts := LS[t].cuts + 1, pow := false })] else []) := by
  rw [List.take_succ_eq_append_getElem h]
  unfold goesC
  rw [List.filterMap_append]
  congr 1
  rw [List.filterMap_cons]
  split <;> (rename_i hh; split at hh <;> simp_all)
theorem hit_le (a : AN) (T : TL) : (hitC a T).length ≤ T.length := List.length_filterMap_le ..
theorem goes_le (L : List CS) : (goesC L).length ≤ L.length := List.length_filterMap_le ..
theorem csC_setCuts {s : CS} (h1 : s.num.length = 8) (k : Nat) : (csC s).set 15 (.int .i8 (k : Int)) = csC { s with cuts := k } := csC_set h1 7 _
theorem csC_setPow {s : CS} (h1 : s.num.length = 8) (v : Bool) : (csC s).set 18 (.bool v) = csC { s with pow := v } := csC_set h1 10 _
theorem csC_setRom {s : CS} (h1 : s.num.length = 8) (v : Bool) : (csC s).set 17 (.bool v) = csC { s with rom := v } := csC_set h1 9 _
theorem csC_setEv {s : CS} (h1 : s.num.length = 8) (k : Nat) : (csC s).set 14 (.int .i16 (k : Int)) = csC { s with ev := k } := csC_set h1 6 _
theorem csC_setFirst {s : CS} (h1 : s.num.length = 8) (k : Nat) : (csC s).set 16 (.int .i8 (k : Int)) = csC { s with first := k } := csC_set h1 8 _
theorem csC_setRev {s : CS} (h1 : s.num.length = 8) (k : Nat) : (csC s).set 8 (.int .u64 (k : Int)) = csC { s with rev := k } := csC_set h1 0 _

theorem TelQ.gone {ab nb mb : Nat} {a : AN} {n : Nat} {L : List CS} {T : TL} {w W : World} (h : TelQ ab nb mb a n L T w W) {g : Nat} (hg : w.heap.size ≤ g) {s : CS} (r : Row W g 67 (csC s)) (hl : s.num.length = 8) :
    TelQ ab nb mb a n L T w ((W.setCell ⟨g, 15, none⟩ (.int .i8 ((s.cuts : Int) + 1))).setCell ⟨g, 18, none⟩ (.bool false)) ∧ Row ((W.setCell ⟨g, 15, none⟩ (.int .i8 ((s.cuts : Int) + 1))).setCell ⟨g, 18, none⟩ (.bool false)) g 67 (csC { s with cuts := s.cuts + 1, pow := false }) := by
  refine ⟨(h.but (SameBut.setCell g 15 (.int .i8 ((s.cuts : Int) + 1)) W) hg).but (SameBut.setCell g 18 (.bool false) _) hg, ?_⟩
  have r3 := (r.set 15 (.int .i8 ((s.cuts + 1 : Nat) : Int))).set 18 (.bool false)
  rw [csC_setCuts hl, csC_setPow (s := { s with cuts := s.cuts + 1 }) hl] at r3
  exact r3
set_option maxHeartbeats 4000000 in
set_option maxRecDepth 100000 in
theorem goes_any {ab nb mb : Nat} {a : AN} {n : Nat} {L : List CS} {w : World} (h : Tel ab nb mb a n L w) (ha : a.Wf) (LS : List CS) (hn : n + LS.length < 4611686018427387904) (hw : ∀ s ∈ LS, s.Wf) (g : Nat) (hr : Row w g 67 (LS.flatMap csC)) (cap : Nat) :
    Calls Tryz.prog 68 #[telV ab nb, .slice (some ⟨g, 0, none⟩) LS.length cap] w fun e W' => e = .returned (.tuple #[]) ∧ TelQ ab nb mb a n L (goesC LS) w W' := by
  have hg : g ≠ mb := hr.notMap h.set
  have R : Hid (∀ t (ht : t < LS.length) W, TelQ ab nb mb a n L (goesC (LS.take t)) w W → W.rangeAt g (t * 19) (csC LS[t])) := fun t ht W hq => by
    have := (hq.row hr hg).range (t * 19) 19
    rw [cs_part LS (fun s hs => (hw s hs).len) t ht] at this
    exact this
  have ON : Hid (∀ t, t ≤ LS.length → ∀ W, TelQ ab nb mb a n L (goesC (LS.take t)) w W → ∀ s : CS, s.Wf → Calls Tryz.prog 34 #[.func (.func 26) #[] #[.pointer (some ⟨ab, 0, none⟩), .pointer (some ⟨nb, 0, none⟩)], .int .i64 8, .agg (csC s).toArray] W fun e W' => e = .returned (.tuple #[]) ∧ TelQ ab nb mb a n L (goesC (LS.take t) ++ [(an0 8, s)]) w W') := fun t ht W hq s hs => by
    have h1 := hit_le a (goesC (LS.take t))
    have h2 := goes_le (LS.take t)
    rw [List.length_take] at h2
    refine (only_any hq.tel ha (by omega) 8 (by omega) s hs).mono ?_
    rintro e W' ⟨rfl, hq2⟩
    exact ⟨rfl, hq.more hq2⟩
  have HW : Hid (∀ s ∈ LS, s.Wf) := hw
  have HQ0 : Hid (TelQ ab nb mb a n L (goesC (LS.take 0)) w w) := by rw [List.take_zero]; exact TelQ.nil h
  have HK : Hid (LS.length < 4611686018427387904) := by show _ < _; omega
  clear h hr hw hn hg ha
  obtain ⟨k, hk⟩ : ∃ k, k = LS.length := ⟨_, rfl⟩
  rw [← hk]
  rw [← hk] at HK
  have HKK : Hid (k = LS.length) := hk
  clear hk
  change Calls Tryz.prog 68 #[.func (.func 26) #[] #[.pointer (some ⟨ab, 0, none⟩), .pointer (some ⟨nb, 0, none⟩)], .slice (some ⟨g, 0, none⟩) k cap] w _
  go_enter Tryz.func68, Tryz.ntmps68
  go_wp2
  go_loopw [8] (fun iv wr => ∃ t : Nat, t ≤ k ∧ iv = .int .i64 t ∧ Hid (TelQ ab nb mb a n L (goesC (LS.take t)) w wr)) (fun iv _ => k - (intOf iv).toNat)
  case atStart => exact ⟨0, by omega, rfl, HQ0⟩
  case round =>
    clear HQ0
    obtain ⟨t, ht, rfl, HT⟩ := hrel
    by_cases hlt : t < k
    · have y1 : (t : Int) < (k : Int) := by omega
      have y0 : (0 : Int) ≤ (t : Int) := by omega
      have hk2 := HK.out
      have zt : IntKind.i64.wrap ((t : Int) + 1) = (t : Int) + 1 := i64_in _ (by omega) (by omega)
      have hlt2 : t < LS.length := by have := HKK.out; omega
      have rng := R.out t hlt2 wr HT.out
      have hs := HW.out LS[t] (List.getElem_mem hlt2)
      have HE : Hid (goesC (LS.take (t + 1)) = goesC (LS.take t) ++ (if LS[t].cuts < 12 then [(an0 8, { LS[t] with cuts := LS[t].cuts + 1, pow := false })] else [])) := goes_take hlt2
      have ON2 := ON.out t (Nat.le_of_lt hlt2)
      clear R HW ON
      generalize LS[t] = s at *
      obtain ⟨w1, hw1⟩ : ∃ w1, w1 = wr.alloc (.cells #[.int .i64 0, .int .i64 0, .int .i64 0, .int .i64 0, .int .i64 0, .int .i64 0, .int .i64 0, .int .i64 0, .int .u64 0, .int .i64 0, .int .i64 0, .bool false, .int .i64 0, .int .i64 0, .int .i16 0, .int .i8 0, .int .i8 0, .bool false, .bool false] 67) := ⟨_, rfl⟩
      have F1 : TelQ ab nb mb a n L (goesC (LS.take t)) w w1 := by rw [hw1]; exact HT.out.alloc _
      have r1 : Row w1 wr.heap.size 67 (csC zCS) := by rw [hw1]; exact Row.at wr 67 (csC zCS) _ _ rfl rfl
      have lc : Hid ((csC s).length = 19) := csC_len hs.len
      have hsz : w.heap.size ≤ wr.heap.size := HT.out.grow.size
      clear HT
      have i8 := hs.cuts
      by_cases h12 : s.cuts < 12
      · have y12 : (s.cuts : Int) < 12 := by omega
        have z8 : IntKind.i8.wrap ((s.cuts : Int) + 1) = (s.cuts : Int) + 1 := i8_in _ (by omega) (by omega)
        go_wp2_with (first
          | (rw [← hw1]; have hz := hw1; clear hz hw1)
          | (refine wpList_load_at_g ?_ 67 (.tmp 10) rfl g (t * 19) 19 (csC s) rng rfl _ lc.out Tryz.underlying67 rfl (by kernel_rfl) ?_; · rfl)
          | (refine wpList_store_Row rfl 67 (.tmp 5) (.tmp 11) rfl wr.heap.size 67 0 (csC zCS) (csC s) r1 (by rw [lc.out]; decide) rfl rfl (by rw [lc.out]; kernel_rfl) (csC_one _) ?_; intro w2 hr2 hs2; have r2 := row_whole hr2 (by rw [lc.out]; decide); have F2 : TelQ ab nb mb a n L (goesC (LS.take t)) w w2 := F1.but hs2 hsz; clear hr2 hs2; have c2 : w2.cell? ⟨wr.heap.size, 15, none⟩ = some (.int .i8 (s.cuts : Int)) := r2.cell 15 _ (csC_at hs.len 7); have f2 : w2.frozen? ⟨wr.heap.size, 15, none⟩ = false := r2.frozen 15; have c3 : w2.cell? ⟨wr.heap.size, 18, none⟩ = some (.bool s.pow) := r2.cell 18 _ (csC_at hs.len 10); have f3 : w2.frozen? ⟨wr.heap.size, 18, none⟩ = false := r2.frozen 18; obtain ⟨w3, hw3⟩ : ∃ w3, w3 = (w2.setCell ⟨wr.heap.size, 15, none⟩ (.int .i8 ((s.cuts : Int) + 1))).setCell ⟨wr.heap.size, 18, none⟩ (.bool false) := ⟨_, rfl⟩; have G := F2.gone hsz r2 hs.len; rw [← hw3] at G; have F3 : Hid (TelQ ab nb mb a n L (goesC (LS.take t)) w w3) := G.1; have r3 := G.2; clear G; have hw' : Hid (CS.Wf { s with cuts := s.cuts + 1, pow := false }) := ⟨hs.len, hs.num, hs.rev, hs.l0, hs.l1, hs.slot, hs.ver, hs.ev, by show s.cuts + 1 ≤ 100; omega, hs.first⟩; have lc3 : Hid ((csC { s with cuts := s.cuts + 1, pow := false }).length = 19) := csC_len hs.len; clear F2 r2 r1 F1)
          | (rw [← hw3]; have hz := hw3; clear hz hw3)
          | (refine wpList_load_whole_g ?_ 67 (.tmp 5) rfl wr.heap.size 67 19 (csC { s with cuts := s.cuts + 1, pow := false }) r3 rfl _ lc3.out Tryz.underlying67 rfl (by kernel_rfl) ?_; · rfl))
        refine (ON2 w3 F3.out _ hw'.out).mono ?_
        rintro e w4 ⟨rfl, hq4⟩
        dsimp only
        have HN : Hid (TelQ ab nb mb a n L (goesC (LS.take (t + 1))) w w4) := by rw [HE.out, if_pos h12]; exact hq4
        clear hq4 F3 r3 HE
        go_wp2
        exact ⟨⟨t + 1, by omega, by go_num, HN⟩, by simp [intOf]; omega⟩
      · have y12 : ¬ (s.cuts : Int) < 12 := by omega
        go_wp2_with (first
          | (rw [← hw1]; have hz := hw1; clear hz hw1)
          | (refine wpList_load_at_g ?_ 67 (.tmp 10) rfl g (t * 19) 19 (csC s) rng rfl _ lc.out Tryz.underlying67 rfl (by kernel_rfl) ?_; · rfl)
          | (refine wpList_store_Row rfl 67 (.tmp 5) (.tmp 11) rfl wr.heap.size 67 0 (csC zCS) (csC s) r1 (by rw [lc.out]; decide) rfl rfl (by rw [lc.out]; kernel_rfl) (csC_one _) ?_; intro w2 hr2 hs2; have r2 := row_whole hr2 (by rw [lc.out]; decide); have F2 : Hid (TelQ ab nb mb a n L (goesC (LS.take t)) w w2) := F1.but hs2 hsz; clear hr2 hs2; have c2 : w2.cell? ⟨wr.heap.size, 15, none⟩ = some (.int .i8 (s.cuts : Int)) := r2.cell 15 _ (csC_at hs.len 7)))
        have HN : Hid (TelQ ab nb mb a n L (goesC (LS.take (t + 1))) w w2) := by rw [HE.out, if_neg h12, List.append_nil]; exact F2.out
        exact ⟨⟨t + 1, by omega, by go_num, HN⟩, by simp [intOf]; omega⟩
    · obtain rfl : t = k := by omega
      have hT := HT.out
      rw [HKK.out, List.take_length] at hT
      go_wp2
      go_end0
      exact ⟨rfl, hT⟩
end Go.Proofs.YtpcgkjngpdplmaaGreatDoor
