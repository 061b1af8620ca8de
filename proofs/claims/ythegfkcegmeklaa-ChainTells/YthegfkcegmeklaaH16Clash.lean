
import Derived.Test.YthegfkcegmeklaaH16ClA
/-! The reference's chain: Clash. (Printed by tools/genclash16.py.) -/
namespace Go.Proofs.Ythegfkcegmeklaa
open Go.RowKit
set_option linter.unusedVariables false

theorem strOf_beq (a b : List By) (r : Bool) (hr : r = decide (a = b)) : ((strOf a).toList == (strOf b).toList) = r := by
  rw [hr]
  by_cases h : a = b
  · subst h; simp
  · rw [decide_eq_false h, beq_eq_false_iff_ne]
    intro e
    rw [ByteArray.toList_eq, ByteArray.toList_eq] at e
    refine h (strOf_inj ?_)
    have e2 : (strOf a).data = (strOf b).data := Array.toList_inj.1 e
    cases ha : strOf a
    cases hb : strOf b
    rw [ha, hb] at e2
    simp only at e2
    rw [e2]
theorem rowL_le {xs : List EvV} {n : Nat} (h : ∀ i, i < n → EvOk (xs.getD i zEv)) : ∀ b ∈ rowL xs n, b.length ≤ 64 := by
  intro b hb
  unfold rowL at hb
  obtain ⟨i, hi, hb⟩ := List.mem_flatMap.1 hb
  simp only [List.mem_cons, List.not_mem_nil, or_false] at hb
  rcases hb with rfl | rfl
  · rw [evB_len (h i (by simpa using hi))]; omega
  · rw [List.length_append, reg_len, show (measure (xs.getD i zEv)).length = 32 from shaLen _]; omega
theorem ev_getD {w : World} {B off : Nat} {xs : List EvV} (h : EvIn w B off xs) : ∀ i, i < xs.length → EvOk (xs.getD i zEv) := fun i hi => by
  have : xs[i]? = some (xs.getD i zEv) := by rw [List.getD_eq_getElem?_getD, List.getElem?_eq_getElem hi]; rfl
  exact h.ok i _ this

theorem fold_setv : ∀ (l pre z : List Value), z.length = l.length → (l.zipIdx pre.length).foldl (fun (cs : Array Value) (x : Value × Nat) => cs.setIfInBounds x.2 x.1) (pre ++ z).toArray = (pre ++ l).toArray
  | [], pre, z, h => by
    have : z = [] := List.eq_nil_of_length_eq_zero h
    subst this
    rfl
  | v :: l, pre, z, h => by
    cases z with
    | nil => cases h
    | cons y z =>
      rw [List.zipIdx_cons, List.foldl_cons]
      have e1 : (pre ++ y :: z).toArray.setIfInBounds pre.length v = ((pre ++ [v]) ++ z).toArray := by
        simp
      have e2 : pre.length + 1 = (pre ++ [v]).length := by simp
      show List.foldl _ ((pre ++ y :: z).toArray.setIfInBounds pre.length v) _ = _
      rw [e1, e2, fold_setv l (pre ++ [v]) z (by simpa using h)]
      simp

/-- What Clash tells, where it tells none. -/
def ClPost (key n1 : List By) (xs : List EvV) (n2 : List By) (ys : List EvV) (w : World) (e : Ending) (w' : World) : Prop :=
  ∃ r, e = .returned (.bool r) ∧ Below w.heap.size w w' ∧ (r = false ↔ (tag key (msg n1 xs) = tag key (msg n2 ys) → msg n1 xs = msg n2 ys) ∧ NoClash (rowL xs xs.length ++ rowL ys ys.length))
theorem OwnT.le {N N' : Nat} {w : World} {ao : Option Addr} {n c : Nat} {ls : List (List By)} (h : OwnT N w ao n c ls) (hN : N' ≤ N) : OwnT N' w ao n c ls := by
  refine ⟨⟨h.1.1, ?_⟩, Nat.le_trans hN h.2.1, h.2.2⟩
  rcases h.1.2 with h0 | ⟨g, c1, cur, e, hg, r⟩
  · exact .inl h0
  · exact .inr ⟨g, c1, cur, e, Nat.le_trans hN hg, r⟩
def Cl2 (ALL : List (List By)) (i : Nat) : Prop := ∀ (a b : Nat) (x y : List By), b < a → a < i → ALL[a]? = some x → ALL[b]? = some y → sha y = sha x → y = x
structure HS (N : Nat) (w wr : World) (tn : Option Addr) (LEN tc : Nat) (ALL : List (List By)) (i : Nat) (ho : Option Addr) (hc : Nat) : Prop where
  t : OwnT N wr tn LEN tc ALL
  h : OwnH N wr ho i hc ((ALL.take i).map sha)
  b : Below N w wr
  c : Cl2 ALL i
theorem HS.dr {N : Nat} {w wr w' : World} {tn : Option Addr} {LEN tc : Nat} {ALL : List (List By)} {i : Nat} {ho : Option Addr} {hc : Nat} (h : HS N w wr tn LEN tc ALL i ho hc) (d : Dr wr w') : HS N w w' tn LEN tc ALL i ho hc := by
  obtain ⟨n, rfl⟩ := d
  exact ⟨h.t, h.h, ⟨h.b.os, h.b.tape, h.b.output, h.b.size, h.b.block⟩, h.c⟩
theorem HS.keep {N : Nat} {w wr w' : World} {tn : Option Addr} {LEN tc : Nat} {ALL : List (List By)} {i : Nat} {ho : Option Addr} {hc : Nat} (h : HS N w wr tn LEN tc ALL i ho hc) (hb : Below wr.heap.size wr w') : HS N w w' tn LEN tc ALL i ho hc :=
  ⟨h.t.keep hb, h.h.keep hb, h.b.trans (hb.mono h.t.2.1), h.c⟩
theorem hCells_push (hs : List (List By)) (x : List By) : hCells (hs ++ [x]) = hCells hs ++ x.map B8 := by simp [hCells, List.flatMap_append]
/-- One hash more. -/
theorem HS.push {N : Nat} {w wr w2 : World} {tn : Option Addr} {LEN tc : Nat} {ALL : List (List By)} {i : Nat} {ho : Option Addr} {hc : Nat} (h : HS N w wr tn LEN tc ALL i ho hc) {x : List By} (hx : ALL[i]? = some x) {ho' : Option Addr} {hc' : Nat} (h2 : w2.ownsRow N 32 32 (.slice ho' (i + 1) hc') (i + 1) (hCells ((ALL.take i).map sha) ++ (sha x).map B8)) (hb : Below N w w2) (hz : wr.heap.size ≤ w2.heap.size)
    (hk : ∀ j, j < wr.heap.size → (∀ g, ho = some ⟨g, 0, none⟩ → j ≠ g) → w2.heap[j]? = wr.heap[j]?) (hc2 : ∀ (b : Nat) (y : List By), b < i → ALL[b]? = some y → sha y = sha x → y = x) : HS N w w2 tn LEN tc ALL (i + 1) ho' hc' := by
  have e : (ALL.take (i + 1)).map sha = (ALL.take i).map sha ++ [sha x] := by rw [List.take_add_one, hx]; simp
  refine ⟨⟨owns_blk h.t.1 fun B eB => hk B (h.t.1.lt B eB).2 fun g eg e2 => ?_, Nat.le_trans h.t.2.1 hz, h.t.2.2⟩, ⟨by rw [e, hCells_push]; exact h2, Nat.le_trans h.t.2.1 hz, by rw [e, List.length_append, h.h.2.2.1]; rfl, fun y hy => ?_⟩, hb, fun a b p q hba ha hpa hqb he => ?_⟩
  · subst e2
    obtain ⟨c1, hc1⟩ := owns_ty h.t.1 B eB
    obtain ⟨c2, hc2⟩ := owns_ty h.h.1 B (by rw [eg]; rfl)
    rw [hc1] at hc2
    injection hc2 with hc2
    injection hc2 with _ h3
    exact absurd h3 (by decide)
  · obtain ⟨z, _, rfl⟩ := List.mem_map.1 hy
    exact shaLen z
  · rcases Nat.lt_or_ge a i with h3 | h3
    · exact h.c a b p q hba h3 hpa hqb he
    · obtain rfl : a = i := by omega
      rw [hx] at hpa
      injection hpa with hpa
      subst hpa
      exact hc2 b q hba hqb he

structure CG (W1 : World) (hg ii hc ki tg LEN tc : Nat) (HC XC : List Value) (S1 S2 : ByteArray) (ne : Bool) (L : Nat → Bool) (x61 x62 x63 x64 x65 x66 x67 x68 x69 x70 x71 x72 x73 x74 x75 x76 x77 : Value) (W : World) : Prop where
  x : W = W1.drew
  p0 : L 0 = true → x61 = .slice (some ⟨hg, 0, none⟩) ii hc
  p1 : L 1 = true → x62 = .int .i64 (ki : Int)
  p2 : L 2 = true → x63 = .pointer (some ⟨hg, ki * 32, none⟩)
  p3 : L 3 = true → x64 = .agg HC.toArray
  p4 : L 4 = true → x65 = .agg XC.toArray
  p5 : L 5 = true → x66 = .bool true
  p6 : L 6 = true → x67 = .bool true
  p7 : L 7 = true → x68 = .slice (some ⟨tg, 0, none⟩) LEN tc
  p8 : L 8 = true → x69 = .int .i64 (ki : Int)
  p9 : L 9 = true → x70 = .pointer (some ⟨tg, ki, none⟩)
  p10 : L 10 = true → x71 = .string S1
  p11 : L 11 = true → x72 = .slice (some ⟨tg, 0, none⟩) LEN tc
  p12 : L 12 = true → x73 = .int .i64 (ii : Int)
  p13 : L 13 = true → x74 = .pointer (some ⟨tg, ii, none⟩)
  p14 : L 14 = true → x75 = .string S2
  p15 : L 15 = true → x76 = .bool ne
  p16 : L 16 = true → x77 = .bool ne
section
variable {W1 : World} {hg ii hc ki tg LEN tc : Nat} {HC XC : List Value} {S1 S2 : ByteArray} {ne : Bool} {L : Nat → Bool} {x61 x62 x63 x64 x65 x66 x67 x68 x69 x70 x71 x72 x73 x74 x75 x76 x77 : Value} {W W2 : World}
theorem CG.s0 (h : CG W1 hg ii hc ki tg LEN tc HC XC S1 S2 ne L x61 x62 x63 x64 x65 x66 x67 x68 x69 x70 x71 x72 x73 x74 x75 x76 x77 W) : CG W1 hg ii hc ki tg LEN tc HC XC S1 S2 ne (upd L 0) (.slice (some ⟨hg, 0, none⟩) ii hc) x62 x63 x64 x65 x66 x67 x68 x69 x70 x71 x72 x73 x74 x75 x76 x77 W :=
  ⟨h.x, fun _ => rfl, h.p1, h.p2, h.p3, h.p4, h.p5, h.p6, h.p7, h.p8, h.p9, h.p10, h.p11, h.p12, h.p13, h.p14, h.p15, h.p16⟩
theorem CG.s1 (h : CG W1 hg ii hc ki tg LEN tc HC XC S1 S2 ne L x61 x62 x63 x64 x65 x66 x67 x68 x69 x70 x71 x72 x73 x74 x75 x76 x77 W) : CG W1 hg ii hc ki tg LEN tc HC XC S1 S2 ne (upd L 1) x61 (.int .i64 (ki : Int)) x63 x64 x65 x66 x67 x68 x69 x70 x71 x72 x73 x74 x75 x76 x77 W :=
  ⟨h.x, h.p0, fun _ => rfl, h.p2, h.p3, h.p4, h.p5, h.p6, h.p7, h.p8, h.p9, h.p10, h.p11, h.p12, h.p13, h.p14, h.p15, h.p16⟩
theorem CG.s2 (h : CG W1 hg ii hc ki tg LEN tc HC XC S1 S2 ne L x61 x62 x63 x64 x65 x66 x67 x68 x69 x70 x71 x72 x73 x74 x75 x76 x77 W) : CG W1 hg ii hc ki tg LEN tc HC XC S1 S2 ne (upd L 2) x61 x62 (.pointer (some ⟨hg, ki * 32, none⟩)) x64 x65 x66 x67 x68 x69 x70 x71 x72 x73 x74 x75 x76 x77 W :=
  ⟨h.x, h.p0, h.p1, fun _ => rfl, h.p3, h.p4, h.p5, h.p6, h.p7, h.p8, h.p9, h.p10, h.p11, h.p12, h.p13, h.p14, h.p15, h.p16⟩
theorem CG.s3 (h : CG W1 hg ii hc ki tg LEN tc HC XC S1 S2 ne L x61 x62 x63 x64 x65 x66 x67 x68 x69 x70 x71 x72 x73 x74 x75 x76 x77 W) : CG W1 hg ii hc ki tg LEN tc HC XC S1 S2 ne (upd L 3) x61 x62 x63 (.agg HC.toArray) x65 x66 x67 x68 x69 x70 x71 x72 x73 x74 x75 x76 x77 W :=
  ⟨h.x, h.p0, h.p1, h.p2, fun _ => rfl, h.p4, h.p5, h.p6, h.p7, h.p8, h.p9, h.p10, h.p11, h.p12, h.p13, h.p14, h.p15, h.p16⟩
theorem CG.s4 (h : CG W1 hg ii hc ki tg LEN tc HC XC S1 S2 ne L x61 x62 x63 x64 x65 x66 x67 x68 x69 x70 x71 x72 x73 x74 x75 x76 x77 W) : CG W1 hg ii hc ki tg LEN tc HC XC S1 S2 ne (upd L 4) x61 x62 x63 x64 (.agg XC.toArray) x66 x67 x68 x69 x70 x71 x72 x73 x74 x75 x76 x77 W :=
  ⟨h.x, h.p0, h.p1, h.p2, h.p3, fun _ => rfl, h.p5, h.p6, h.p7, h.p8, h.p9, h.p10, h.p11, h.p12, h.p13, h.p14, h.p15, h.p16⟩
theorem CG.s5 (h : CG W1 hg ii hc ki tg LEN tc HC XC S1 S2 ne L x61 x62 x63 x64 x65 x66 x67 x68 x69 x70 x71 x72 x73 x74 x75 x76 x77 W) : CG W1 hg ii hc ki tg LEN tc HC XC S1 S2 ne (upd L 5) x61 x62 x63 x64 x65 (.bool true) x67 x68 x69 x70 x71 x72 x73 x74 x75 x76 x77 W :=
  ⟨h.x, h.p0, h.p1, h.p2, h.p3, h.p4, fun _ => rfl, h.p6, h.p7, h.p8, h.p9, h.p10, h.p11, h.p12, h.p13, h.p14, h.p15, h.p16⟩
theorem CG.s6 (h : CG W1 hg ii hc ki tg LEN tc HC XC S1 S2 ne L x61 x62 x63 x64 x65 x66 x67 x68 x69 x70 x71 x72 x73 x74 x75 x76 x77 W) : CG W1 hg ii hc ki tg LEN tc HC XC S1 S2 ne (upd L 6) x61 x62 x63 x64 x65 x66 (.bool true) x68 x69 x70 x71 x72 x73 x74 x75 x76 x77 W :=
  ⟨h.x, h.p0, h.p1, h.p2, h.p3, h.p4, h.p5, fun _ => rfl, h.p7, h.p8, h.p9, h.p10, h.p11, h.p12, h.p13, h.p14, h.p15, h.p16⟩
theorem CG.s7 (h : CG W1 hg ii hc ki tg LEN tc HC XC S1 S2 ne L x61 x62 x63 x64 x65 x66 x67 x68 x69 x70 x71 x72 x73 x74 x75 x76 x77 W) : CG W1 hg ii hc ki tg LEN tc HC XC S1 S2 ne (upd L 7) x61 x62 x63 x64 x65 x66 x67 (.slice (some ⟨tg, 0, none⟩) LEN tc) x69 x70 x71 x72 x73 x74 x75 x76 x77 W :=
  ⟨h.x, h.p0, h.p1, h.p2, h.p3, h.p4, h.p5, h.p6, fun _ => rfl, h.p8, h.p9, h.p10, h.p11, h.p12, h.p13, h.p14, h.p15, h.p16⟩
theorem CG.s8 (h : CG W1 hg ii hc ki tg LEN tc HC XC S1 S2 ne L x61 x62 x63 x64 x65 x66 x67 x68 x69 x70 x71 x72 x73 x74 x75 x76 x77 W) : CG W1 hg ii hc ki tg LEN tc HC XC S1 S2 ne (upd L 8) x61 x62 x63 x64 x65 x66 x67 x68 (.int .i64 (ki : Int)) x70 x71 x72 x73 x74 x75 x76 x77 W :=
  ⟨h.x, h.p0, h.p1, h.p2, h.p3, h.p4, h.p5, h.p6, h.p7, fun _ => rfl, h.p9, h.p10, h.p11, h.p12, h.p13, h.p14, h.p15, h.p16⟩
theorem CG.s9 (h : CG W1 hg ii hc ki tg LEN tc HC XC S1 S2 ne L x61 x62 x63 x64 x65 x66 x67 x68 x69 x70 x71 x72 x73 x74 x75 x76 x77 W) : CG W1 hg ii hc ki tg LEN tc HC XC S1 S2 ne (upd L 9) x61 x62 x63 x64 x65 x66 x67 x68 x69 (.pointer (some ⟨tg, ki, none⟩)) x71 x72 x73 x74 x75 x76 x77 W :=
  ⟨h.x, h.p0, h.p1, h.p2, h.p3, h.p4, h.p5, h.p6, h.p7, h.p8, fun _ => rfl, h.p10, h.p11, h.p12, h.p13, h.p14, h.p15, h.p16⟩
theorem CG.s10 (h : CG W1 hg ii hc ki tg LEN tc HC XC S1 S2 ne L x61 x62 x63 x64 x65 x66 x67 x68 x69 x70 x71 x72 x73 x74 x75 x76 x77 W) : CG W1 hg ii hc ki tg LEN tc HC XC S1 S2 ne (upd L 10) x61 x62 x63 x64 x65 x66 x67 x68 x69 x70 (.string S1) x72 x73 x74 x75 x76 x77 W :=
  ⟨h.x, h.p0, h.p1, h.p2, h.p3, h.p4, h.p5, h.p6, h.p7, h.p8, h.p9, fun _ => rfl, h.p11, h.p12, h.p13, h.p14, h.p15, h.p16⟩
theorem CG.s11 (h : CG W1 hg ii hc ki tg LEN tc HC XC S1 S2 ne L x61 x62 x63 x64 x65 x66 x67 x68 x69 x70 x71 x72 x73 x74 x75 x76 x77 W) : CG W1 hg ii hc ki tg LEN tc HC XC S1 S2 ne (upd L 11) x61 x62 x63 x64 x65 x66 x67 x68 x69 x70 x71 (.slice (some ⟨tg, 0, none⟩) LEN tc) x73 x74 x75 x76 x77 W :=
  ⟨h.x, h.p0, h.p1, h.p2, h.p3, h.p4, h.p5, h.p6, h.p7, h.p8, h.p9, h.p10, fun _ => rfl, h.p12, h.p13, h.p14, h.p15, h.p16⟩
theorem CG.s12 (h : CG W1 hg ii hc ki tg LEN tc HC XC S1 S2 ne L x61 x62 x63 x64 x65 x66 x67 x68 x69 x70 x71 x72 x73 x74 x75 x76 x77 W) : CG W1 hg ii hc ki tg LEN tc HC XC S1 S2 ne (upd L 12) x61 x62 x63 x64 x65 x66 x67 x68 x69 x70 x71 x72 (.int .i64 (ii : Int)) x74 x75 x76 x77 W :=
  ⟨h.x, h.p0, h.p1, h.p2, h.p3, h.p4, h.p5, h.p6, h.p7, h.p8, h.p9, h.p10, h.p11, fun _ => rfl, h.p13, h.p14, h.p15, h.p16⟩
theorem CG.s13 (h : CG W1 hg ii hc ki tg LEN tc HC XC S1 S2 ne L x61 x62 x63 x64 x65 x66 x67 x68 x69 x70 x71 x72 x73 x74 x75 x76 x77 W) : CG W1 hg ii hc ki tg LEN tc HC XC S1 S2 ne (upd L 13) x61 x62 x63 x64 x65 x66 x67 x68 x69 x70 x71 x72 x73 (.pointer (some ⟨tg, ii, none⟩)) x75 x76 x77 W :=
  ⟨h.x, h.p0, h.p1, h.p2, h.p3, h.p4, h.p5, h.p6, h.p7, h.p8, h.p9, h.p10, h.p11, h.p12, fun _ => rfl, h.p14, h.p15, h.p16⟩
theorem CG.s14 (h : CG W1 hg ii hc ki tg LEN tc HC XC S1 S2 ne L x61 x62 x63 x64 x65 x66 x67 x68 x69 x70 x71 x72 x73 x74 x75 x76 x77 W) : CG W1 hg ii hc ki tg LEN tc HC XC S1 S2 ne (upd L 14) x61 x62 x63 x64 x65 x66 x67 x68 x69 x70 x71 x72 x73 x74 (.string S2) x76 x77 W :=
  ⟨h.x, h.p0, h.p1, h.p2, h.p3, h.p4, h.p5, h.p6, h.p7, h.p8, h.p9, h.p10, h.p11, h.p12, h.p13, fun _ => rfl, h.p15, h.p16⟩
theorem CG.s15 (h : CG W1 hg ii hc ki tg LEN tc HC XC S1 S2 ne L x61 x62 x63 x64 x65 x66 x67 x68 x69 x70 x71 x72 x73 x74 x75 x76 x77 W) : CG W1 hg ii hc ki tg LEN tc HC XC S1 S2 ne (upd L 15) x61 x62 x63 x64 x65 x66 x67 x68 x69 x70 x71 x72 x73 x74 x75 (.bool ne) x77 W :=
  ⟨h.x, h.p0, h.p1, h.p2, h.p3, h.p4, h.p5, h.p6, h.p7, h.p8, h.p9, h.p10, h.p11, h.p12, h.p13, h.p14, fun _ => rfl, h.p16⟩
theorem CG.s16 (h : CG W1 hg ii hc ki tg LEN tc HC XC S1 S2 ne L x61 x62 x63 x64 x65 x66 x67 x68 x69 x70 x71 x72 x73 x74 x75 x76 x77 W) : CG W1 hg ii hc ki tg LEN tc HC XC S1 S2 ne (upd L 16) x61 x62 x63 x64 x65 x66 x67 x68 x69 x70 x71 x72 x73 x74 x75 x76 (.bool ne) W :=
  ⟨h.x, h.p0, h.p1, h.p2, h.p3, h.p4, h.p5, h.p6, h.p7, h.p8, h.p9, h.p10, h.p11, h.p12, h.p13, h.p14, h.p15, fun _ => rfl⟩
end
@[reducible] def ICG (W1 : World) (hg ii hc ki tg LEN tc : Nat) (HC XC : List Value) (S1 S2 : ByteArray) (ne : Bool) (y0 y1 y2 y3 y4 y5 y6 y7 y8 y9 y10 y11 y12 y13 y14 y15 y16 y17 y18 y19 y20 y21 y22 y23 y24 y25 y26 y27 y28 y29 y30 y31 y32 y33 y34 y35 y36 y37 y38 y39 y40 y41 y42 y43 y44 y45 y46 y47 y48 y49 y50 y51 y52 y53 y54 y55 y56 y57 y58 y59 y60 y78 y79 y80 y81 : Value) : (Nat → Bool) → Act → World → Prop := fun L a W => ∃ x61 x62 x63 x64 x65 x66 x67 x68 x69 x70 x71 x72 x73 x74 x75 x76 x77, a = ⟨#[y0, y1, y2, y3, y4, y5, y6, y7, y8, y9, y10, y11, y12, y13, y14, y15, y16, y17, y18, y19, y20, y21, y22, y23, y24, y25, y26, y27, y28, y29, y30, y31, y32, y33, y34, y35, y36, y37, y38, y39, y40, y41, y42, y43, y44, y45, y46, y47, y48, y49, y50, y51, y52, y53, y54, y55, y56, y57, y58, y59, y60, x61, x62, x63, x64, x65, x66, x67, x68, x69, x70, x71, x72, x73, x74, x75, x76, x77, y78, y79, y80, y81], []⟩ ∧ CG W1 hg ii hc ki tg LEN tc HC XC S1 S2 ne L x61 x62 x63 x64 x65 x66 x67 x68 x69 x70 x71 x72 x73 x74 x75 x76 x77 W
theorem CG.step {W1 : World} {hg ii hc ki tg LEN tc : Nat} {HC XC : List Value} {S1 S2 : ByteArray} {ne : Bool} {y0 y1 y2 y3 y4 y5 y6 y7 y8 y9 y10 y11 y12 y13 y14 y15 y16 y17 y18 y19 y20 y21 y22 y23 y24 y25 y26 y27 y28 y29 y30 y31 y32 y33 y34 y35 y36 y37 y38 y39 y40 y41 y42 y43 y44 y45 y46 y47 y48 y49 y50 y51 y52 y53 y54 y55 y56 y57 y58 y59 y60 y78 y79 y80 y81 : Value} {P : Program} {ops : Array Oper} {Q : Exit → Act → World → Prop} {i : Nat} {o : Oper} (hq : ∀ x61 x62 x63 x64 x65 x66 x67 x68 x69 x70 x71 x72 x73 x74 x75 x76 x77 (L : Nat → Bool) (W : World), CG W1 hg ii hc ki tg LEN tc HC XC S1 S2 ne L x61 x62 x63 x64 x65 x66 x67 x68 x69 x70 x71 x72 x73 x74 x75 x76 x77 W → L i = false → (∀ j ∈ onesOf o, L j = true) → ∀ K : Act → World → Prop, Shut (∀ a' w', ICG W1 hg ii hc ki tg LEN tc HC XC S1 S2 ne y0 y1 y2 y3 y4 y5 y6 y7 y8 y9 y10 y11 y12 y13 y14 y15 y16 y17 y18 y19 y20 y21 y22 y23 y24 y25 y26 y27 y28 y29 y30 y31 y32 y33 y34 y35 y36 y37 y38 y39 y40 y41 y42 y43 y44 y45 y46 y47 y48 y49 y50 y51 y52 y53 y54 y55 y56 y57 y58 y59 y60 y78 y79 y80 y81 (upd L i) a' w' → K a' w') → if Region.wanted o (yielded ops (⟨#[y0, y1, y2, y3, y4, y5, y6, y7, y8, y9, y10, y11, y12, y13, y14, y15, y16, y17, y18, y19, y20, y21, y22, y23, y24, y25, y26, y27, y28, y29, y30, y31, y32, y33, y34, y35, y36, y37, y38, y39, y40, y41, y42, y43, y44, y45, y46, y47, y48, y49, y50, y51, y52, y53, y54, y55, y56, y57, y58, y59, y60, x61, x62, x63, x64, x65, x66, x67, x68, x69, x70, x71, x72, x73, x74, x75, x76, x77, y78, y79, y80, y81], []⟩ : Act).tmps) = true then Oper.wp P o ⟨#[y0, y1, y2, y3, y4, y5, y6, y7, y8, y9, y10, y11, y12, y13, y14, y15, y16, y17, y18, y19, y20, y21, y22, y23, y24, y25, y26, y27, y28, y29, y30, y31, y32, y33, y34, y35, y36, y37, y38, y39, y40, y41, y42, y43, y44, y45, y46, y47, y48, y49, y50, y51, y52, y53, y54, y55, y56, y57, y58, y59, y60, x61, x62, x63, x64, x65, x66, x67, x68, x69, x70, x71, x72, x73, x74, x75, x76, x77, y78, y79, y80, y81], []⟩ W K Q else K ((⟨#[y0, y1, y2, y3, y4, y5, y6, y7, y8, y9, y10, y11, y12, y13, y14, y15, y16, y17, y18, y19, y20, y21, y22, y23, y24, y25, y26, y27, y28, y29, y30, y31, y32, y33, y34, y35, y36, y37, y38, y39, y40, y41, y42, y43, y44, y45, y46, y47, y48, y49, y50, y51, y52, y53, y54, y55, y56, y57, y58, y59, y60, x61, x62, x63, x64, x65, x66, x67, x68, x69, x70, x71, x72, x73, x74, x75, x76, x77, y78, y79, y80, y81], []⟩ : Act).put o.dst undef) W) : StepI P ops (ICG W1 hg ii hc ki tg LEN tc HC XC S1 S2 ne y0 y1 y2 y3 y4 y5 y6 y7 y8 y9 y10 y11 y12 y13 y14 y15 y16 y17 y18 y19 y20 y21 y22 y23 y24 y25 y26 y27 y28 y29 y30 y31 y32 y33 y34 y35 y36 y37 y38 y39 y40 y41 y42 y43 y44 y45 y46 y47 y48 y49 y50 y51 y52 y53 y54 y55 y56 y57 y58 y59 y60 y78 y79 y80 y81) Q i o := by
  rintro L a W ⟨x61, x62, x63, x64, x65, x66, x67, x68, x69, x70, x71, x72, x73, x74, x75, x76, x77, rfl, h⟩
  exact hq _ _ _ _ _ _ _ _ _ _ _ _ _ _ _ _ _ _ _ h
theorem CG.ends {W1 : World} {hg ii hc ki tg LEN tc : Nat} {HC XC : List Value} {S1 S2 : ByteArray} {ne : Bool} {y0 y1 y2 y3 y4 y5 y6 y7 y8 y9 y10 y11 y12 y13 y14 y15 y16 y17 y18 y19 y20 y21 y22 y23 y24 y25 y26 y27 y28 y29 y30 y31 y32 y33 y34 y35 y36 y37 y38 y39 y40 y41 y42 y43 y44 y45 y46 y47 y48 y49 y50 y51 y52 y53 y54 y55 y56 y57 y58 y59 y60 y78 y79 y80 y81 : Value} {mm_ : Nat} {Q : Exit → Act → World → Prop} (hq : ∀ x61 x62 x63 x64 x65 x66 x67 x68 x69 x70 x71 x72 x73 x74 x75 x76 x77 (L : Nat → Bool) (W : World), (∀ j, j < mm_ → L j = true) → CG W1 hg ii hc ki tg LEN tc HC XC S1 S2 ne L x61 x62 x63 x64 x65 x66 x67 x68 x69 x70 x71 x72 x73 x74 x75 x76 x77 W → Q .normal ⟨#[y0, y1, y2, y3, y4, y5, y6, y7, y8, y9, y10, y11, y12, y13, y14, y15, y16, y17, y18, y19, y20, y21, y22, y23, y24, y25, y26, y27, y28, y29, y30, y31, y32, y33, y34, y35, y36, y37, y38, y39, y40, y41, y42, y43, y44, y45, y46, y47, y48, y49, y50, y51, y52, y53, y54, y55, y56, y57, y58, y59, y60, x61, x62, x63, x64, x65, x66, x67, x68, x69, x70, x71, x72, x73, x74, x75, x76, x77, y78, y79, y80, y81], []⟩ W) : ∀ L a' w', (∀ j, j < mm_ → L j = true) → ICG W1 hg ii hc ki tg LEN tc HC XC S1 S2 ne y0 y1 y2 y3 y4 y5 y6 y7 y8 y9 y10 y11 y12 y13 y14 y15 y16 y17 y18 y19 y20 y21 y22 y23 y24 y25 y26 y27 y28 y29 y30 y31 y32 y33 y34 y35 y36 y37 y38 y39 y40 y41 y42 y43 y44 y45 y46 y47 y48 y49 y50 y51 y52 y53 y54 y55 y56 y57 y58 y59 y60 y78 y79 y80 y81 L a' w' → Q .normal a' w' := by
  rintro L a W hall ⟨x61, x62, x63, x64, x65, x66, x67, x68, x69, x70, x71, x72, x73, x74, x75, x76, x77, rfl, h⟩
  exact hq _ _ _ _ _ _ _ _ _ _ _ _ _ _ _ _ _ _ _ hall h
structure CH (W1 : World) (hg ii hc ki tg LEN tc : Nat) (HC XC : List Value) (L : Nat → Bool) (x61 x62 x63 x64 x65 x66 x67 x68 x69 x70 x71 x72 x73 x74 x75 x76 x77 : Value) (W : World) : Prop where
  x : W = W1.drew
  p0 : L 0 = true → x61 = .slice (some ⟨hg, 0, none⟩) ii hc
  p1 : L 1 = true → x62 = .int .i64 (ki : Int)
  p2 : L 2 = true → x63 = .pointer (some ⟨hg, ki * 32, none⟩)
  p3 : L 3 = true → x64 = .agg HC.toArray
  p4 : L 4 = true → x65 = .agg XC.toArray
  p5 : L 5 = true → x66 = .bool false
  p6 : L 6 = true → x67 = .bool false
  p16 : L 16 = true → x77 = .bool false
section
variable {W1 : World} {hg ii hc ki tg LEN tc : Nat} {HC XC : List Value} {L : Nat → Bool} {x61 x62 x63 x64 x65 x66 x67 x68 x69 x70 x71 x72 x73 x74 x75 x76 x77 : Value} {W W2 : World}
theorem CH.s0 (h : CH W1 hg ii hc ki tg LEN tc HC XC L x61 x62 x63 x64 x65 x66 x67 x68 x69 x70 x71 x72 x73 x74 x75 x76 x77 W) : CH W1 hg ii hc ki tg LEN tc HC XC (upd L 0) (.slice (some ⟨hg, 0, none⟩) ii hc) x62 x63 x64 x65 x66 x67 x68 x69 x70 x71 x72 x73 x74 x75 x76 x77 W :=
  ⟨h.x, fun _ => rfl, h.p1, h.p2, h.p3, h.p4, h.p5, h.p6, h.p16⟩
theorem CH.s1 (h : CH W1 hg ii hc ki tg LEN tc HC XC L x61 x62 x63 x64 x65 x66 x67 x68 x69 x70 x71 x72 x73 x74 x75 x76 x77 W) : CH W1 hg ii hc ki tg LEN tc HC XC (upd L 1) x61 (.int .i64 (ki : Int)) x63 x64 x65 x66 x67 x68 x69 x70 x71 x72 x73 x74 x75 x76 x77 W :=
  ⟨h.x, h.p0, fun _ => rfl, h.p2, h.p3, h.p4, h.p5, h.p6, h.p16⟩
theorem CH.s2 (h : CH W1 hg ii hc ki tg LEN tc HC XC L x61 x62 x63 x64 x65 x66 x67 x68 x69 x70 x71 x72 x73 x74 x75 x76 x77 W) : CH W1 hg ii hc ki tg LEN tc HC XC (upd L 2) x61 x62 (.pointer (some ⟨hg, ki * 32, none⟩)) x64 x65 x66 x67 x68 x69 x70 x71 x72 x73 x74 x75 x76 x77 W :=
  ⟨h.x, h.p0, h.p1, fun _ => rfl, h.p3, h.p4, h.p5, h.p6, h.p16⟩
theorem CH.s3 (h : CH W1 hg ii hc ki tg LEN tc HC XC L x61 x62 x63 x64 x65 x66 x67 x68 x69 x70 x71 x72 x73 x74 x75 x76 x77 W) : CH W1 hg ii hc ki tg LEN tc HC XC (upd L 3) x61 x62 x63 (.agg HC.toArray) x65 x66 x67 x68 x69 x70 x71 x72 x73 x74 x75 x76 x77 W :=
  ⟨h.x, h.p0, h.p1, h.p2, fun _ => rfl, h.p4, h.p5, h.p6, h.p16⟩
theorem CH.s4 (h : CH W1 hg ii hc ki tg LEN tc HC XC L x61 x62 x63 x64 x65 x66 x67 x68 x69 x70 x71 x72 x73 x74 x75 x76 x77 W) : CH W1 hg ii hc ki tg LEN tc HC XC (upd L 4) x61 x62 x63 x64 (.agg XC.toArray) x66 x67 x68 x69 x70 x71 x72 x73 x74 x75 x76 x77 W :=
  ⟨h.x, h.p0, h.p1, h.p2, h.p3, fun _ => rfl, h.p5, h.p6, h.p16⟩
theorem CH.s5 (h : CH W1 hg ii hc ki tg LEN tc HC XC L x61 x62 x63 x64 x65 x66 x67 x68 x69 x70 x71 x72 x73 x74 x75 x76 x77 W) : CH W1 hg ii hc ki tg LEN tc HC XC (upd L 5) x61 x62 x63 x64 x65 (.bool false) x67 x68 x69 x70 x71 x72 x73 x74 x75 x76 x77 W :=
  ⟨h.x, h.p0, h.p1, h.p2, h.p3, h.p4, fun _ => rfl, h.p6, h.p16⟩
theorem CH.s6 (h : CH W1 hg ii hc ki tg LEN tc HC XC L x61 x62 x63 x64 x65 x66 x67 x68 x69 x70 x71 x72 x73 x74 x75 x76 x77 W) : CH W1 hg ii hc ki tg LEN tc HC XC (upd L 6) x61 x62 x63 x64 x65 x66 (.bool false) x68 x69 x70 x71 x72 x73 x74 x75 x76 x77 W :=
  ⟨h.x, h.p0, h.p1, h.p2, h.p3, h.p4, h.p5, fun _ => rfl, h.p16⟩
theorem CH.s7 (h : CH W1 hg ii hc ki tg LEN tc HC XC L x61 x62 x63 x64 x65 x66 x67 x68 x69 x70 x71 x72 x73 x74 x75 x76 x77 W) : CH W1 hg ii hc ki tg LEN tc HC XC (upd L 7) x61 x62 x63 x64 x65 x66 x67 undef x69 x70 x71 x72 x73 x74 x75 x76 x77 W :=
  ⟨h.x, h.p0, h.p1, h.p2, h.p3, h.p4, h.p5, h.p6, h.p16⟩
theorem CH.s8 (h : CH W1 hg ii hc ki tg LEN tc HC XC L x61 x62 x63 x64 x65 x66 x67 x68 x69 x70 x71 x72 x73 x74 x75 x76 x77 W) : CH W1 hg ii hc ki tg LEN tc HC XC (upd L 8) x61 x62 x63 x64 x65 x66 x67 x68 undef x70 x71 x72 x73 x74 x75 x76 x77 W :=
  ⟨h.x, h.p0, h.p1, h.p2, h.p3, h.p4, h.p5, h.p6, h.p16⟩
theorem CH.s9 (h : CH W1 hg ii hc ki tg LEN tc HC XC L x61 x62 x63 x64 x65 x66 x67 x68 x69 x70 x71 x72 x73 x74 x75 x76 x77 W) : CH W1 hg ii hc ki tg LEN tc HC XC (upd L 9) x61 x62 x63 x64 x65 x66 x67 x68 x69 undef x71 x72 x73 x74 x75 x76 x77 W :=
  ⟨h.x, h.p0, h.p1, h.p2, h.p3, h.p4, h.p5, h.p6, h.p16⟩
theorem CH.s10 (h : CH W1 hg ii hc ki tg LEN tc HC XC L x61 x62 x63 x64 x65 x66 x67 x68 x69 x70 x71 x72 x73 x74 x75 x76 x77 W) : CH W1 hg ii hc ki tg LEN tc HC XC (upd L 10) x61 x62 x63 x64 x65 x66 x67 x68 x69 x70 undef x72 x73 x74 x75 x76 x77 W :=
  ⟨h.x, h.p0, h.p1, h.p2, h.p3, h.p4, h.p5, h.p6, h.p16⟩
theorem CH.s11 (h : CH W1 hg ii hc ki tg LEN tc HC XC L x61 x62 x63 x64 x65 x66 x67 x68 x69 x70 x71 x72 x73 x74 x75 x76 x77 W) : CH W1 hg ii hc ki tg LEN tc HC XC (upd L 11) x61 x62 x63 x64 x65 x66 x67 x68 x69 x70 x71 undef x73 x74 x75 x76 x77 W :=
  ⟨h.x, h.p0, h.p1, h.p2, h.p3, h.p4, h.p5, h.p6, h.p16⟩
theorem CH.s12 (h : CH W1 hg ii hc ki tg LEN tc HC XC L x61 x62 x63 x64 x65 x66 x67 x68 x69 x70 x71 x72 x73 x74 x75 x76 x77 W) : CH W1 hg ii hc ki tg LEN tc HC XC (upd L 12) x61 x62 x63 x64 x65 x66 x67 x68 x69 x70 x71 x72 undef x74 x75 x76 x77 W :=
  ⟨h.x, h.p0, h.p1, h.p2, h.p3, h.p4, h.p5, h.p6, h.p16⟩
theorem CH.s13 (h : CH W1 hg ii hc ki tg LEN tc HC XC L x61 x62 x63 x64 x65 x66 x67 x68 x69 x70 x71 x72 x73 x74 x75 x76 x77 W) : CH W1 hg ii hc ki tg LEN tc HC XC (upd L 13) x61 x62 x63 x64 x65 x66 x67 x68 x69 x70 x71 x72 x73 undef x75 x76 x77 W :=
  ⟨h.x, h.p0, h.p1, h.p2, h.p3, h.p4, h.p5, h.p6, h.p16⟩
theorem CH.s14 (h : CH W1 hg ii hc ki tg LEN tc HC XC L x61 x62 x63 x64 x65 x66 x67 x68 x69 x70 x71 x72 x73 x74 x75 x76 x77 W) : CH W1 hg ii hc ki tg LEN tc HC XC (upd L 14) x61 x62 x63 x64 x65 x66 x67 x68 x69 x70 x71 x72 x73 x74 undef x76 x77 W :=
  ⟨h.x, h.p0, h.p1, h.p2, h.p3, h.p4, h.p5, h.p6, h.p16⟩
theorem CH.s15 (h : CH W1 hg ii hc ki tg LEN tc HC XC L x61 x62 x63 x64 x65 x66 x67 x68 x69 x70 x71 x72 x73 x74 x75 x76 x77 W) : CH W1 hg ii hc ki tg LEN tc HC XC (upd L 15) x61 x62 x63 x64 x65 x66 x67 x68 x69 x70 x71 x72 x73 x74 x75 undef x77 W :=
  ⟨h.x, h.p0, h.p1, h.p2, h.p3, h.p4, h.p5, h.p6, h.p16⟩
theorem CH.s16 (h : CH W1 hg ii hc ki tg LEN tc HC XC L x61 x62 x63 x64 x65 x66 x67 x68 x69 x70 x71 x72 x73 x74 x75 x76 x77 W) : CH W1 hg ii hc ki tg LEN tc HC XC (upd L 16) x61 x62 x63 x64 x65 x66 x67 x68 x69 x70 x71 x72 x73 x74 x75 x76 (.bool false) W :=
  ⟨h.x, h.p0, h.p1, h.p2, h.p3, h.p4, h.p5, h.p6, fun _ => rfl⟩
end
@[reducible] def ICH (W1 : World) (hg ii hc ki tg LEN tc : Nat) (HC XC : List Value) (y0 y1 y2 y3 y4 y5 y6 y7 y8 y9 y10 y11 y12 y13 y14 y15 y16 y17 y18 y19 y20 y21 y22 y23 y24 y25 y26 y27 y28 y29 y30 y31 y32 y33 y34 y35 y36 y37 y38 y39 y40 y41 y42 y43 y44 y45 y46 y47 y48 y49 y50 y51 y52 y53 y54 y55 y56 y57 y58 y59 y60 y78 y79 y80 y81 : Value) : (Nat → Bool) → Act → World → Prop := fun L a W => ∃ x61 x62 x63 x64 x65 x66 x67 x68 x69 x70 x71 x72 x73 x74 x75 x76 x77, a = ⟨#[y0, y1, y2, y3, y4, y5, y6, y7, y8, y9, y10, y11, y12, y13, y14, y15, y16, y17, y18, y19, y20, y21, y22, y23, y24, y25, y26, y27, y28, y29, y30, y31, y32, y33, y34, y35, y36, y37, y38, y39, y40, y41, y42, y43, y44, y45, y46, y47, y48, y49, y50, y51, y52, y53, y54, y55, y56, y57, y58, y59, y60, x61, x62, x63, x64, x65, x66, x67, x68, x69, x70, x71, x72, x73, x74, x75, x76, x77, y78, y79, y80, y81], []⟩ ∧ CH W1 hg ii hc ki tg LEN tc HC XC L x61 x62 x63 x64 x65 x66 x67 x68 x69 x70 x71 x72 x73 x74 x75 x76 x77 W
theorem CH.step {W1 : World} {hg ii hc ki tg LEN tc : Nat} {HC XC : List Value} {y0 y1 y2 y3 y4 y5 y6 y7 y8 y9 y10 y11 y12 y13 y14 y15 y16 y17 y18 y19 y20 y21 y22 y23 y24 y25 y26 y27 y28 y29 y30 y31 y32 y33 y34 y35 y36 y37 y38 y39 y40 y41 y42 y43 y44 y45 y46 y47 y48 y49 y50 y51 y52 y53 y54 y55 y56 y57 y58 y59 y60 y78 y79 y80 y81 : Value} {P : Program} {ops : Array Oper} {Q : Exit → Act → World → Prop} {i : Nat} {o : Oper} (hq : ∀ x61 x62 x63 x64 x65 x66 x67 x68 x69 x70 x71 x72 x73 x74 x75 x76 x77 (L : Nat → Bool) (W : World), CH W1 hg ii hc ki tg LEN tc HC XC L x61 x62 x63 x64 x65 x66 x67 x68 x69 x70 x71 x72 x73 x74 x75 x76 x77 W → L i = false → (∀ j ∈ onesOf o, L j = true) → ∀ K : Act → World → Prop, Shut (∀ a' w', ICH W1 hg ii hc ki tg LEN tc HC XC y0 y1 y2 y3 y4 y5 y6 y7 y8 y9 y10 y11 y12 y13 y14 y15 y16 y17 y18 y19 y20 y21 y22 y23 y24 y25 y26 y27 y28 y29 y30 y31 y32 y33 y34 y35 y36 y37 y38 y39 y40 y41 y42 y43 y44 y45 y46 y47 y48 y49 y50 y51 y52 y53 y54 y55 y56 y57 y58 y59 y60 y78 y79 y80 y81 (upd L i) a' w' → K a' w') → if Region.wanted o (yielded ops (⟨#[y0, y1, y2, y3, y4, y5, y6, y7, y8, y9, y10, y11, y12, y13, y14, y15, y16, y17, y18, y19, y20, y21, y22, y23, y24, y25, y26, y27, y28, y29, y30, y31, y32, y33, y34, y35, y36, y37, y38, y39, y40, y41, y42, y43, y44, y45, y46, y47, y48, y49, y50, y51, y52, y53, y54, y55, y56, y57, y58, y59, y60, x61, x62, x63, x64, x65, x66, x67, x68, x69, x70, x71, x72, x73, x74, x75, x76, x77, y78, y79, y80, y81], []⟩ : Act).tmps) = true then Oper.wp P o ⟨#[y0, y1, y2, y3, y4, y5, y6, y7, y8, y9, y10, y11, y12, y13, y14, y15, y16, y17, y18, y19, y20, y21, y22, y23, y24, y25, y26, y27, y28, y29, y30, y31, y32, y33, y34, y35, y36, y37, y38, y39, y40, y41, y42, y43, y44, y45, y46, y47, y48, y49, y50, y51, y52, y53, y54, y55, y56, y57, y58, y59, y60, x61, x62, x63, x64, x65, x66, x67, x68, x69, x70, x71, x72, x73, x74, x75, x76, x77, y78, y79, y80, y81], []⟩ W K Q else K ((⟨#[y0, y1, y2, y3, y4, y5, y6, y7, y8, y9, y10, y11, y12, y13, y14, y15, y16, y17, y18, y19, y20, y21, y22, y23, y24, y25, y26, y27, y28, y29, y30, y31, y32, y33, y34, y35, y36, y37, y38, y39, y40, y41, y42, y43, y44, y45, y46, y47, y48, y49, y50, y51, y52, y53, y54, y55, y56, y57, y58, y59, y60, x61, x62, x63, x64, x65, x66, x67, x68, x69, x70, x71, x72, x73, x74, x75, x76, x77, y78, y79, y80, y81], []⟩ : Act).put o.dst undef) W) : StepI P ops (ICH W1 hg ii hc ki tg LEN tc HC XC y0 y1 y2 y3 y4 y5 y6 y7 y8 y9 y10 y11 y12 y13 y14 y15 y16 y17 y18 y19 y20 y21 y22 y23 y24 y25 y26 y27 y28 y29 y30 y31 y32 y33 y34 y35 y36 y37 y38 y39 y40 y41 y42 y43 y44 y45 y46 y47 y48 y49 y50 y51 y52 y53 y54 y55 y56 y57 y58 y59 y60 y78 y79 y80 y81) Q i o := by
  rintro L a W ⟨x61, x62, x63, x64, x65, x66, x67, x68, x69, x70, x71, x72, x73, x74, x75, x76, x77, rfl, h⟩
  exact hq _ _ _ _ _ _ _ _ _ _ _ _ _ _ _ _ _ _ _ h
theorem CH.ends {W1 : World} {hg ii hc ki tg LEN tc : Nat} {HC XC : List Value} {y0 y1 y2 y3 y4 y5 y6 y7 y8 y9 y10 y11 y12 y13 y14 y15 y16 y17 y18 y19 y20 y21 y22 y23 y24 y25 y26 y27 y28 y29 y30 y31 y32 y33 y34 y35 y36 y37 y38 y39 y40 y41 y42 y43 y44 y45 y46 y47 y48 y49 y50 y51 y52 y53 y54 y55 y56 y57 y58 y59 y60 y78 y79 y80 y81 : Value} {mm_ : Nat} {Q : Exit → Act → World → Prop} (hq : ∀ x61 x62 x63 x64 x65 x66 x67 x68 x69 x70 x71 x72 x73 x74 x75 x76 x77 (L : Nat → Bool) (W : World), (∀ j, j < mm_ → L j = true) → CH W1 hg ii hc ki tg LEN tc HC XC L x61 x62 x63 x64 x65 x66 x67 x68 x69 x70 x71 x72 x73 x74 x75 x76 x77 W → Q .normal ⟨#[y0, y1, y2, y3, y4, y5, y6, y7, y8, y9, y10, y11, y12, y13, y14, y15, y16, y17, y18, y19, y20, y21, y22, y23, y24, y25, y26, y27, y28, y29, y30, y31, y32, y33, y34, y35, y36, y37, y38, y39, y40, y41, y42, y43, y44, y45, y46, y47, y48, y49, y50, y51, y52, y53, y54, y55, y56, y57, y58, y59, y60, x61, x62, x63, x64, x65, x66, x67, x68, x69, x70, x71, x72, x73, x74, x75, x76, x77, y78, y79, y80, y81], []⟩ W) : ∀ L a' w', (∀ j, j < mm_ → L j = true) → ICH W1 hg ii hc ki tg LEN tc HC XC y0 y1 y2 y3 y4 y5 y6 y7 y8 y9 y10 y11 y12 y13 y14 y15 y16 y17 y18 y19 y20 y21 y22 y23 y24 y25 y26 y27 y28 y29 y30 y31 y32 y33 y34 y35 y36 y37 y38 y39 y40 y41 y42 y43 y44 y45 y46 y47 y48 y49 y50 y51 y52 y53 y54 y55 y56 y57 y58 y59 y60 y78 y79 y80 y81 L a' w' → Q .normal a' w' := by
  rintro L a W hall ⟨x61, x62, x63, x64, x65, x66, x67, x68, x69, x70, x71, x72, x73, x74, x75, x76, x77, rfl, h⟩
  exact hq _ _ _ _ _ _ _ _ _ _ _ _ _ _ _ _ _ _ _ hall h
set_option maxHeartbeats 4000000 in
set_option maxRecDepth 100000 in
theorem rclash_any (w : World) (ko : Option Addr) (kn kc : Nat) (key : List By) (hkn : key.length = kn) (hki : IsB w ko key) (hkk : ko = none → kc = 0) (hkb : kn ≤ 140737488351232)
    (no : Option Addr) (nb nc : Nat) (n1 : List By) (hnb : n1.length = nb) (hni : IsB w no n1) (hnn : no = none → nc = 0) (hbig : nb ≤ 140737488351232)
    (ao : Option Addr) (n cap B off : Nat) (xs : List EvV) (hn : xs.length = n) (hn1024 : n ≤ 1024) (hao : 0 < n → ao = some ⟨B, off, none⟩) (hin : EvIn w B off xs)
    (mo : Option Addr) (mb mc : Nat) (n2 : List By) (hmb : n2.length = mb) (hmi : IsB w mo n2) (hmn : mo = none → mc = 0) (hmig : mb ≤ 140737488351232)
    (bo : Option Addr) (m bc D dff : Nat) (ys : List EvV) (hm : ys.length = m) (hm1024 : m ≤ 1024) (hbo : 0 < m → bo = some ⟨D, dff, none⟩) (hiy : EvIn w D dff ys) :
    Calls Try.prog 23 #[.slice ko kn kc, .slice no nb nc, .slice ao n cap, .slice mo mb mc, .slice bo m bc] w (ClPost key n1 xs n2 ys w) := by
  have M1 := rmessage_any w no nb nc n1 hnb hni hnn hbig ao n cap B off xs hn (by omega) hao hin
  have M2 : Hid (∀ W, Below w.heap.size w W → Calls Try.prog 37 #[.slice mo mb mc, .slice bo m bc] W fun e w' => ∃ ao' c', e = .returned (.slice ao' (mb + 57) c') ∧ Own W.heap.size w' (.slice ao' (mb + 57) c') (msg n2 ys) ∧ Below W.heap.size W w') := fun W h => rmessage_any W mo mb mc n2 hmb (hmi.below h (Nat.le_refl _)) hmn hmig bo m bc D dff ys hm (by omega) hbo (hiy.keep h)
  have R1 : Hid (∀ W, Below w.heap.size w W → Calls Try.prog 39 #[.slice ao n cap] W fun e w' => ∃ ao' c', e = .returned (.slice ao' (2 * n) c') ∧ OwnT W.heap.size w' ao' (2 * n) c' (rowL xs n) ∧ Below W.heap.size W w') := fun W h => rrows_any W ao n cap B off xs hn (by omega) hao (hin.keep h)
  have R2 : Hid (∀ W, Below w.heap.size w W → Calls Try.prog 39 #[.slice bo m bc] W fun e w' => ∃ ao' c', e = .returned (.slice ao' (2 * m) c') ∧ OwnT W.heap.size w' ao' (2 * m) c' (rowL ys m) ∧ Below W.heap.size W w') := fun W h => rrows_any W bo m bc D dff ys hm (by omega) hbo (hiy.keep h)
  have HKI : Hid (∀ W, Below w.heap.size w W → IsB W ko key) := fun W h => hki.below h (Nat.le_refl _)
  have HKN : Hid (key.length = kn) := hkn
  have HKK : Hid (ko = none → kc = 0) := hkk
  have HL1 : Hid ((msg n1 xs).length = nb + 57) := by show _ = _; rw [msg_len, hnb]
  have HL2 : Hid ((msg n2 ys).length = mb + 57) := by show _ = _; rw [msg_len, hmb]
  have HXL : Hid (rowL xs xs.length ++ rowL ys ys.length = rowL xs n ++ rowL ys m) := by show _ = _; rw [hn, hm]
  have HAL : Hid ((rowL xs n ++ rowL ys m).length = 2 * n + 2 * m) := by show _ = _; rw [List.length_append, rowL_len, rowL_len]
  have HBL : Hid (∀ b ∈ rowL xs n ++ rowL ys m, b.length ≤ 64) := fun b hb => by
    rcases List.mem_append.1 hb with h | h
    · exact rowL_le (fun i hi => ev_getD hin i (by rw [hn]; exact hi)) b h
    · exact rowL_le (fun i hi => ev_getD hiy i (by rw [hm]; exact hi)) b h
  clear hki hkn hkk hni hnb hnn hin hao hn hmi hmb hmn hiy hbo hm
  go_enter Try.func23, Try.ntmps23
  go_wp2_with fail
  refine M1.mono ?_
  clear M1
  rintro e w1 ⟨a1, c1, rfl, o1, b1⟩
  dsimp only
  have B1 : Hid (Below w.heap.size w w1) := b1
  have O1 : Hid (Own w.heap.size w1 (.slice a1 (nb + 57) c1) (msg n1 xs)) := o1
  clear b1 o1
  go_wp2_with fail
  refine (M2.out _ B1.out).mono ?_
  clear M2
  rintro e w2 ⟨a2, c2, rfl, o2, b2⟩
  dsimp only
  have B2 : Hid (Below w.heap.size w w2) := B1.out.trans (b2.mono B1.out.size)
  have O2 : Hid (Own w.heap.size w2 (.slice a1 (nb + 57) c1) (msg n1 xs)) := O1.out.keep b2
  have O3 : Hid (Own w.heap.size w2 (.slice a2 (mb + 57) c2) (msg n2 ys)) := own_le o2 B1.out.size
  clear o2 b2 O1 B1
  have cv1 := conv_bytes w2 a1 (nb + 57) c1 (msg n1 xs) HL1.out (own_IsB O2.out)
  have cv2 := conv_bytes w2 a2 (mb + 57) c2 (msg n2 ys) HL2.out (own_IsB O3.out)
  by_cases hms : msg n1 xs = msg n2 ys
  · have HTG : Hid (tag key (msg n1 xs) = tag key (msg n2 ys) → msg n1 xs = msg n2 ys) := fun _ => hms
    rw [← hms] at cv2
    clear hms O2 O3 HKI HL1 HL2
    generalize strOf (msg n1 xs) = SA at *
    have B5 : Hid (Below w.heap.size w w2) := B2.out
    clear B2
    go_wp2_with fail
    clear cv1 cv2
    refine (R1.out _ B5.out).mono ?_
    rintro e w6 ⟨a6, c6, rfl, t6, b6⟩
    dsimp only
    have B6 : Hid (Below w.heap.size w w6) := B5.out.trans (b6.mono B5.out.size)
    have T6 : Hid (OwnT w.heap.size w6 a6 (2 * n) c6 (rowL xs n)) := t6.le B5.out.size
    clear t6 b6 B5
    go_wp2_with fail
    refine (R2.out _ B6.out).mono ?_
    rintro e w7 ⟨a7, c7, rfl, t7, b7⟩
    dsimp only
    have B7 : Hid (Below w.heap.size w w7) := B6.out.trans (b7.mono B6.out.size)
    have T67 : Hid (OwnT w.heap.size w7 a6 (2 * n) c6 (rowL xs n)) := T6.out.keep b7
    have T7 : Hid (OwnT w7.heap.size w7 a7 (2 * m) c7 (rowL ys m) ∨ OwnT w.heap.size w7 a7 (2 * m) c7 (rowL ys m)) := .inr (t7.le B6.out.size)
    have L7 : Hid (IsL w7 a7 ((rowL ys m).map fun b => .string (strOf b)) ∧ (a7 = none → c7 = 0)) := t7.isl
    have N7 : Hid (((rowL ys m).map fun b => Value.string (strOf b)).length = 2 * m * 1) := by show _ = _; rw [List.length_map, rowL_len, Nat.mul_one]
    have S7 : Hid (∀ u ∈ ((rowL ys m).map fun b => Value.string (strOf b)), u.oneCell' = true) := fun u hu => by obtain ⟨z, _, rfl⟩ := List.mem_map.1 hu; rfl
    clear t7 b7 T6 B6 T7 R1 R2
    go_wp2_with (at_builtin; refine wpList_append_gen el_strs rfl (.tmp 39) (.tmp 41) rfl w.heap.size w a6 (2 * n) c6 _ rfl T67.out.1 T67.out.2.1 B7.out a7 (2 * m) c7 _ rfl N7.out L7.out.1 S7.out L7.out.2 (by unfold maxLen; omega) (by omega) ?_; intro a8 c8 w8 q1 q2 q3 q4)
    have T8 : OwnT w.heap.size w8 a8 (2 * n + 2 * m) c8 (rowL xs n ++ rowL ys m) := ⟨by rw [List.map_append]; exact q1, Nat.le_trans T67.out.2.1 q3, HAL.out⟩
    have H9 : Hid (HS w.heap.size w (w8.alloc (.cells #[] 32)) a8 (2 * n + 2 * m) c8 (rowL xs n ++ rowL ys m) 0 (some ⟨w8.heap.size, 0, none⟩) 0) := by
      have ba : Below w8.heap.size w8 (w8.alloc (.cells #[] 32)) := (Below.refl _ _).alloc (Nat.le_refl _) _
      refine ⟨T8.keep ba, ⟨⟨by simp [hCells], .inr ⟨w8.heap.size, 0, #[], rfl, T8.2.1, heap_alloc_new w8 _, Nat.le_refl _, by unfold maxLen; omega, by simp, by simp [hCells]⟩⟩, by have := T8.2.1; simp; omega, rfl, fun h hh => by simp at hh⟩, q2.trans (ba.mono T8.2.1), fun a b x y h1 h2 => absurd h2 (by omega)⟩
    clear T8 q1 q2 q3 q4 T67 B7 L7 N7 S7
    generalize hALL : rowL xs n ++ rowL ys m = ALL at *
    clear hALL
    generalize hLEN : 2 * n + 2 * m = LEN at *
    have hlen : LEN ≤ 4096 := by omega
    go_wp2
    go_loopw [14, 15] (fun hv iv wr => ∃ (i : Nat) (ho : Option Addr) (hc : Nat), i ≤ LEN ∧ hv = .slice ho i hc ∧ iv = .int .i64 i ∧ Hid (HS w.heap.size w wr a8 LEN c8 ALL i ho hc)) (fun _ iv _ => LEN - (intOf iv).toNat)
    case atStart => exact ⟨0, _, _, by omega, rfl, rfl, H9⟩
    case round =>
      clear H9
      obtain ⟨i, ho, hc, hi, rfl, rfl, HH⟩ := hrel
      by_cases hlt : i < LEN
      · have y0 : (0 : Int) ≤ (i : Int) := by omega
        have y1 : (i : Int) < (LEN : Int) := by omega
        obtain ⟨b, hb⟩ : ∃ b, ALL[i]? = some b := ⟨_, List.getElem?_eq_getElem (by rw [HAL.out]; exact hlt)⟩
        obtain ⟨tg, htg, hcl⟩ := HH.out.t.cell i b hb
        subst htg
        obtain ⟨cc, w3, hcv, ib3, b3⟩ := conv_back wr b
        have hbl : b.length ≤ 64 := HBL.out b (List.mem_of_getElem? hb)
        have RF : Hid (Calls Try.prog 34 #[.slice (some ⟨wr.heap.size, 0, none⟩) b.length cc] w3 fun e w' => e = .returned (.agg ((sha b).map B8).toArray) ∧ Below w3.heap.size w3 w') := ref_n _ cc b.length b rfl (sha b) rfl w3 ib3 (fun h => by cases h) (by omega)
        have H3 : Hid (HS w.heap.size w w3 (some ⟨tg, 0, none⟩) LEN c8 ALL i ho hc) := HH.out.keep b3
        have HBI : Hid (ALL[i]? = some b) := hb
        clear ib3 b3 hb HH
        have hsl : (sha b).length = 32 := shaLen b
        generalize hSH : sha b = SH at *
        have HSH : Hid (sha b = SH) := hSH
        clear hSH
        go_wp2_with fail
        refine RF.out.mono ?_
        clear RF hcv hcl
        rintro e w4 ⟨rfl, b4⟩
        dsimp only
        have H4 : Hid (HS w.heap.size w w4 (some ⟨tg, 0, none⟩) LEN c8 ALL i ho hc) := H3.out.keep b4
        clear b4 H3
        generalize hX : w4.heap.size = X at *
        have lx : (SH.map B8).length = 32 := by rw [List.length_map, hsl]
        go_wp2_with (refine wpList_store_Row rfl 32 _ _ rfl X 32 0 z32 (SH.map B8) (Row.at w4 _ _ _ _ hX.symm rfl) (by simp [hsl]) rfl rfl (by rw [lx]; kernel_rfl) (B8_one _) ?_; intro w5 hr5 hs5; have r5 : Hid (Row w5 X 32 (SH.map B8)) := row_whole hr5 (by simp [hsl]); have H5 : Hid (HS w.heap.size w w5 (some ⟨tg, 0, none⟩) LEN c8 ALL i ho hc) := H4.out.keep (hs5.below ((Below.refl _ _).alloc (Nat.le_refl _) _) (by omega)); clear hr5 hs5 H4)
        go_loopw [17] (fun kv wi => ∃ k : Nat, k ≤ i ∧ kv = .int .i64 k ∧ Hid (Dr w5 wi) ∧ Hid (∀ (j : Nat) (y : List By), j < k → ALL[j]? = some y → sha y = SH → y = b)) (fun kv _ => i - (intOf kv).toNat)
        case atStart => exact ⟨0, by omega, rfl, Dr.refl _, fun j y h => absurd h (by omega)⟩
        case round =>
          obtain ⟨k, hk, rfl, HD, HJ⟩ := hrel
          obtain ⟨wi, hwi⟩ : ∃ wi, wi = wr := ⟨wr, rfl⟩
          subst hwi
          by_cases hki : k < i
          · have x0 : (0 : Int) ≤ (k : Int) := by omega
            have x1 : (k : Int) < (i : Int) := by omega
            have x2 : (k : Int) < (LEN : Int) := by omega
            have HI := H5.out.dr HD.out
            obtain ⟨y, hy⟩ : ∃ y, ALL[k]? = some y := ⟨_, List.getElem?_eq_getElem (by rw [HAL.out]; omega)⟩
            obtain ⟨hg, hhg, hrk⟩ := HI.h.at k (sha y) (by rw [List.getElem?_map, List.getElem?_take, if_pos hki, hy]; rfl)
            subst hhg
            obtain ⟨tg2, et, hs1⟩ := HI.t.cell k y hy
            injection et with et
            injection et with et
            subst et
            obtain ⟨tg3, et3, hs2⟩ := HI.t.cell i b HBI.out
            injection et3 with et3
            injection et3 with et3
            subst et3
            have rX := r5.out.dr HD.out
            have HH1 : Hid (∀ W, W = wi.drew → W.rangeAt hg (k * 32) ((sha y).map B8)) := fun W h => by subst h; exact hrk
            have HX1 : Hid (∀ W, W = wi.drew → Row W X 32 (SH.map B8)) := fun W h => by subst h; exact rX
            have HS1 : Hid (∀ W, W = wi.drew → W.cell? ⟨tg, k, none⟩ = some (.string (strOf y))) := fun W h => by subst h; exact hs1
            have HS2 : Hid (∀ W, W = wi.drew → W.cell? ⟨tg, i, none⟩ = some (.string (strOf b))) := fun W h => by subst h; exact hs2
            have HDW : Hid (Dr w5 wi.drew) := HD.out.drewN 1
            have HBF : Hid (Below w.heap.size w wi.drew) := Below_dr H5.out.b HDW.out
            have hyl : (sha y).length = 32 := shaLen y
            have lh : ((sha y).map B8).length = 32 := by rw [List.length_map, hyl]
            have HNX : Hid ((sha y = SH → y = b) → ∀ (j : Nat) (z : List By), j < k + 1 → ALL[j]? = some z → sha z = SH → z = b) := by
              intro h j z hj hz e
              rcases Nat.lt_or_ge j k with h1 | h1
              · exact HJ.out j z h1 hz e
              · obtain rfl : j = k := by omega
                rw [hy] at hz
                injection hz with hz
                subst hz
                exact h e
            have HYM : Hid (y ∈ ALL ∧ b ∈ ALL) := ⟨List.mem_of_getElem? hy, List.mem_of_getElem? HBI.out⟩
            clear HI hrk hs1 hs2 rX hy HJ HD
            by_cases heq : sha y = SH
            · have qe := eq_any (sha y) SH hyl hsl true (by rw [decide_eq_true heq])
              by_cases hyb : y = b
              · have HN2 := HNX.out (fun _ => hyb)
                have sb := strOf_beq y b true (by rw [decide_eq_true hyb])
                have HN3 : Hid _ := HN2
                clear heq hyb HNX HN2
                generalize (sha y).map B8 = HC at *
                generalize SH.map B8 = XC at *
                generalize strOf y = S1 at *
                generalize strOf b = S2 at *
                go_wp2_with fail
                refine wp_region_inv (ICG wi hg i hc k tg LEN c8 HC XC S1 S2 false _ _ _ _ _ _ _ _ _ _ _ _ _ _ _ _ _ _ _ _ _ _ _ _ _ _ _ _ _ _ _ _ _ _ _ _ _ _ _ _ _ _ _ _ _ _ _ _ _ _ _ _ _ _ _ _ _ _ _ _ _ _ _ _ _) (by kernel_rfl) (by kernel_rfl) ⟨_, _, _, _, _, _, _, _, _, _, _, _, _, _, _, _, _, rfl, ⟨rfl, fun k => (by cases k), fun k => (by cases k), fun k => (by cases k), fun k => (by cases k), fun k => (by cases k), fun k => (by cases k), fun k => (by cases k), fun k => (by cases k), fun k => (by cases k), fun k => (by cases k), fun k => (by cases k), fun k => (by cases k), fun k => (by cases k), fun k => (by cases k), fun k => (by cases k), fun k => (by cases k), fun k => (by cases k)⟩⟩ ?_ ?_
                · refine .cons ?_ (.cons ?_ (.cons ?_ (.cons ?_ (.cons ?_ (.cons ?_ (.cons ?_ (.cons ?_ (.cons ?_ (.cons ?_ (.cons ?_ (.cons ?_ (.cons ?_ (.cons ?_ (.cons ?_ (.cons ?_ (.cons ?_ .nil))))))))))))))))
                  all_goals (refine CG.step ?_; intro x61 x62 x63 x64 x65 x66 x67 x68 x69 x70 x71 x72 x73 x74 x75 x76 x77 L W hI hL hd K hK)
                  · rw [if_pos (by rfl)]
                    go_simp
                    exact hK.out _ _ ⟨_, _, _, _, _, _, _, _, _, _, _, _, _, _, _, _, _, rfl, hI.s0⟩
                  · rw [if_pos (by rfl)]
                    go_simp
                    exact hK.out _ _ ⟨_, _, _, _, _, _, _, _, _, _, _, _, _, _, _, _, _, rfl, hI.s1⟩
                  · have hx0 := hI.p0 (hd 0 (by decide))
                    subst hx0
                    have hx1 := hI.p1 (hd 1 (by decide))
                    subst hx1
                    rw [if_pos (by rfl)]
                    go_simp
                    exact hK.out _ _ ⟨_, _, _, _, _, _, _, _, _, _, _, _, _, _, _, _, _, rfl, hI.s2⟩
                  · have hx2 := hI.p2 (hd 2 (by decide))
                    subst hx2
                    refine step_load_rng rfl 32 _ rfl hg (k * 32) HC (HH1.out _ hI.x) rfl _ Try.underlying32 rfl (by rw [lh]; kernel_rfl) ?_
                    exact hK.out _ _ ⟨_, _, _, _, _, _, _, _, _, _, _, _, _, _, _, _, _, rfl, hI.s3⟩
                  · refine step_load_Row rfl 32 _ rfl X 32 XC (HX1.out _ hI.x) rfl _ Try.underlying32 rfl (by rw [lx]; kernel_rfl) ?_
                    exact hK.out _ _ ⟨_, _, _, _, _, _, _, _, _, _, _, _, _, _, _, _, _, rfl, hI.s4⟩
                  · have hx3 := hI.p3 (hd 3 (by decide))
                    subst hx3
                    have hx4 := hI.p4 (hd 4 (by decide))
                    subst hx4
                    rw [if_pos (by rfl)]
                    go_simp
                    exact hK.out _ _ ⟨_, _, _, _, _, _, _, _, _, _, _, _, _, _, _, _, _, rfl, hI.s5⟩
                  · have hx5 := hI.p5 (hd 5 (by decide))
                    subst hx5
                    rw [if_pos (by rfl)]
                    go_simp
                    exact hK.out _ _ ⟨_, _, _, _, _, _, _, _, _, _, _, _, _, _, _, _, _, rfl, hI.s6⟩
                  · have hx6 := hI.p6 (hd 6 (by decide))
                    subst hx6
                    rw [if_pos (by rfl)]
                    go_simp
                    exact hK.out _ _ ⟨_, _, _, _, _, _, _, _, _, _, _, _, _, _, _, _, _, rfl, hI.s7⟩
                  · have hx6 := hI.p6 (hd 6 (by decide))
                    subst hx6
                    rw [if_pos (by rfl)]
                    go_simp
                    exact hK.out _ _ ⟨_, _, _, _, _, _, _, _, _, _, _, _, _, _, _, _, _, rfl, hI.s8⟩
                  · have hx7 := hI.p7 (hd 7 (by decide))
                    subst hx7
                    have hx8 := hI.p8 (hd 8 (by decide))
                    subst hx8
                    have hx6 := hI.p6 (hd 6 (by decide))
                    subst hx6
                    rw [if_pos (by rfl)]
                    go_simp
                    exact hK.out _ _ ⟨_, _, _, _, _, _, _, _, _, _, _, _, _, _, _, _, _, rfl, hI.s9⟩
                  · have hx9 := hI.p9 (hd 9 (by decide))
                    subst hx9
                    have hx6 := hI.p6 (hd 6 (by decide))
                    subst hx6
                    rw [if_pos (by rfl)]
                    have hc1 := HS1.out _ hI.x
                    go_simp
                    exact hK.out _ _ ⟨_, _, _, _, _, _, _, _, _, _, _, _, _, _, _, _, _, rfl, hI.s10⟩
                  · have hx6 := hI.p6 (hd 6 (by decide))
                    subst hx6
                    rw [if_pos (by rfl)]
                    go_simp
                    exact hK.out _ _ ⟨_, _, _, _, _, _, _, _, _, _, _, _, _, _, _, _, _, rfl, hI.s11⟩
                  · have hx6 := hI.p6 (hd 6 (by decide))
                    subst hx6
                    rw [if_pos (by rfl)]
                    go_simp
                    exact hK.out _ _ ⟨_, _, _, _, _, _, _, _, _, _, _, _, _, _, _, _, _, rfl, hI.s12⟩
                  · have hx11 := hI.p11 (hd 11 (by decide))
                    subst hx11
                    have hx12 := hI.p12 (hd 12 (by decide))
                    subst hx12
                    have hx6 := hI.p6 (hd 6 (by decide))
                    subst hx6
                    rw [if_pos (by rfl)]
                    go_simp
                    exact hK.out _ _ ⟨_, _, _, _, _, _, _, _, _, _, _, _, _, _, _, _, _, rfl, hI.s13⟩
                  · have hx13 := hI.p13 (hd 13 (by decide))
                    subst hx13
                    have hx6 := hI.p6 (hd 6 (by decide))
                    subst hx6
                    rw [if_pos (by rfl)]
                    have hc2 := HS2.out _ hI.x
                    go_simp
                    exact hK.out _ _ ⟨_, _, _, _, _, _, _, _, _, _, _, _, _, _, _, _, _, rfl, hI.s14⟩
                  · have hx10 := hI.p10 (hd 10 (by decide))
                    subst hx10
                    have hx14 := hI.p14 (hd 14 (by decide))
                    subst hx14
                    have hx6 := hI.p6 (hd 6 (by decide))
                    subst hx6
                    rw [if_pos (by rfl)]
                    go_simp
                    exact hK.out _ _ ⟨_, _, _, _, _, _, _, _, _, _, _, _, _, _, _, _, _, rfl, hI.s15⟩
                  · have hx6 := hI.p6 (hd 6 (by decide))
                    subst hx6
                    have hx15 := hI.p15 (hd 15 (by decide))
                    subst hx15
                    rw [if_pos (by rfl)]
                    go_simp
                    exact hK.out _ _ ⟨_, _, _, _, _, _, _, _, _, _, _, _, _, _, _, _, _, rfl, hI.s16⟩
                · refine CG.ends ?_; intro x61 x62 x63 x64 x65 x66 x67 x68 x69 x70 x71 x72 x73 x74 x75 x76 x77 L W hall hI
                  have hx0 := hI.p0 (hall 0 (by decide))
                  subst hx0
                  have hx1 := hI.p1 (hall 1 (by decide))
                  subst hx1
                  have hx2 := hI.p2 (hall 2 (by decide))
                  subst hx2
                  have hx3 := hI.p3 (hall 3 (by decide))
                  subst hx3
                  have hx4 := hI.p4 (hall 4 (by decide))
                  subst hx4
                  have hx5 := hI.p5 (hall 5 (by decide))
                  subst hx5
                  have hx6 := hI.p6 (hall 6 (by decide))
                  subst hx6
                  have hx7 := hI.p7 (hall 7 (by decide))
                  subst hx7
                  have hx8 := hI.p8 (hall 8 (by decide))
                  subst hx8
                  have hx9 := hI.p9 (hall 9 (by decide))
                  subst hx9
                  have hx10 := hI.p10 (hall 10 (by decide))
                  subst hx10
                  have hx11 := hI.p11 (hall 11 (by decide))
                  subst hx11
                  have hx12 := hI.p12 (hall 12 (by decide))
                  subst hx12
                  have hx13 := hI.p13 (hall 13 (by decide))
                  subst hx13
                  have hx14 := hI.p14 (hall 14 (by decide))
                  subst hx14
                  have hx15 := hI.p15 (hall 15 (by decide))
                  subst hx15
                  have hx16 := hI.p16 (hall 16 (by decide))
                  subst hx16
                  have hXe := hI.x
                  clear hI hall
                  try dsimp only
                  subst hXe
                  go_wp2
                  exact ⟨⟨k + 1, by omega, by go_num, HDW, HN3⟩, by simp [intOf]; omega⟩
              · have sb := strOf_beq y b false (by rw [decide_eq_false hyb])
                have HNO : Hid (¬ NoClash ALL) := fun h => hyb (h y HYM.out.1 b HYM.out.2 (heq.trans HSH.out.symm))
                clear heq hyb HNX HYM
                generalize (sha y).map B8 = HC at *
                generalize SH.map B8 = XC at *
                generalize strOf y = S1 at *
                generalize strOf b = S2 at *
                go_wp2_with fail
                refine wp_region_inv (ICG wi hg i hc k tg LEN c8 HC XC S1 S2 true _ _ _ _ _ _ _ _ _ _ _ _ _ _ _ _ _ _ _ _ _ _ _ _ _ _ _ _ _ _ _ _ _ _ _ _ _ _ _ _ _ _ _ _ _ _ _ _ _ _ _ _ _ _ _ _ _ _ _ _ _ _ _ _ _) (by kernel_rfl) (by kernel_rfl) ⟨_, _, _, _, _, _, _, _, _, _, _, _, _, _, _, _, _, rfl, ⟨rfl, fun k => (by cases k), fun k => (by cases k), fun k => (by cases k), fun k => (by cases k), fun k => (by cases k), fun k => (by cases k), fun k => (by cases k), fun k => (by cases k), fun k => (by cases k), fun k => (by cases k), fun k => (by cases k), fun k => (by cases k), fun k => (by cases k), fun k => (by cases k), fun k => (by cases k), fun k => (by cases k), fun k => (by cases k)⟩⟩ ?_ ?_
                · refine .cons ?_ (.cons ?_ (.cons ?_ (.cons ?_ (.cons ?_ (.cons ?_ (.cons ?_ (.cons ?_ (.cons ?_ (.cons ?_ (.cons ?_ (.cons ?_ (.cons ?_ (.cons ?_ (.cons ?_ (.cons ?_ (.cons ?_ .nil))))))))))))))))
                  all_goals (refine CG.step ?_; intro x61 x62 x63 x64 x65 x66 x67 x68 x69 x70 x71 x72 x73 x74 x75 x76 x77 L W hI hL hd K hK)
                  · rw [if_pos (by rfl)]
                    go_simp
                    exact hK.out _ _ ⟨_, _, _, _, _, _, _, _, _, _, _, _, _, _, _, _, _, rfl, hI.s0⟩
                  · rw [if_pos (by rfl)]
                    go_simp
                    exact hK.out _ _ ⟨_, _, _, _, _, _, _, _, _, _, _, _, _, _, _, _, _, rfl, hI.s1⟩
                  · have hx0 := hI.p0 (hd 0 (by decide))
                    subst hx0
                    have hx1 := hI.p1 (hd 1 (by decide))
                    subst hx1
                    rw [if_pos (by rfl)]
                    go_simp
                    exact hK.out _ _ ⟨_, _, _, _, _, _, _, _, _, _, _, _, _, _, _, _, _, rfl, hI.s2⟩
                  · have hx2 := hI.p2 (hd 2 (by decide))
                    subst hx2
                    refine step_load_rng rfl 32 _ rfl hg (k * 32) HC (HH1.out _ hI.x) rfl _ Try.underlying32 rfl (by rw [lh]; kernel_rfl) ?_
                    exact hK.out _ _ ⟨_, _, _, _, _, _, _, _, _, _, _, _, _, _, _, _, _, rfl, hI.s3⟩
                  · refine step_load_Row rfl 32 _ rfl X 32 XC (HX1.out _ hI.x) rfl _ Try.underlying32 rfl (by rw [lx]; kernel_rfl) ?_
                    exact hK.out _ _ ⟨_, _, _, _, _, _, _, _, _, _, _, _, _, _, _, _, _, rfl, hI.s4⟩
                  · have hx3 := hI.p3 (hd 3 (by decide))
                    subst hx3
                    have hx4 := hI.p4 (hd 4 (by decide))
                    subst hx4
                    rw [if_pos (by rfl)]
                    go_simp
                    exact hK.out _ _ ⟨_, _, _, _, _, _, _, _, _, _, _, _, _, _, _, _, _, rfl, hI.s5⟩
                  · have hx5 := hI.p5 (hd 5 (by decide))
                    subst hx5
                    rw [if_pos (by rfl)]
                    go_simp
                    exact hK.out _ _ ⟨_, _, _, _, _, _, _, _, _, _, _, _, _, _, _, _, _, rfl, hI.s6⟩
                  · have hx6 := hI.p6 (hd 6 (by decide))
                    subst hx6
                    rw [if_pos (by rfl)]
                    go_simp
                    exact hK.out _ _ ⟨_, _, _, _, _, _, _, _, _, _, _, _, _, _, _, _, _, rfl, hI.s7⟩
                  · have hx6 := hI.p6 (hd 6 (by decide))
                    subst hx6
                    rw [if_pos (by rfl)]
                    go_simp
                    exact hK.out _ _ ⟨_, _, _, _, _, _, _, _, _, _, _, _, _, _, _, _, _, rfl, hI.s8⟩
                  · have hx7 := hI.p7 (hd 7 (by decide))
                    subst hx7
                    have hx8 := hI.p8 (hd 8 (by decide))
                    subst hx8
                    have hx6 := hI.p6 (hd 6 (by decide))
                    subst hx6
                    rw [if_pos (by rfl)]
                    go_simp
                    exact hK.out _ _ ⟨_, _, _, _, _, _, _, _, _, _, _, _, _, _, _, _, _, rfl, hI.s9⟩
                  · have hx9 := hI.p9 (hd 9 (by decide))
                    subst hx9
                    have hx6 := hI.p6 (hd 6 (by decide))
                    subst hx6
                    rw [if_pos (by rfl)]
                    have hc1 := HS1.out _ hI.x
                    go_simp
                    exact hK.out _ _ ⟨_, _, _, _, _, _, _, _, _, _, _, _, _, _, _, _, _, rfl, hI.s10⟩
                  · have hx6 := hI.p6 (hd 6 (by decide))
                    subst hx6
                    rw [if_pos (by rfl)]
                    go_simp
                    exact hK.out _ _ ⟨_, _, _, _, _, _, _, _, _, _, _, _, _, _, _, _, _, rfl, hI.s11⟩
                  · have hx6 := hI.p6 (hd 6 (by decide))
                    subst hx6
                    rw [if_pos (by rfl)]
                    go_simp
                    exact hK.out _ _ ⟨_, _, _, _, _, _, _, _, _, _, _, _, _, _, _, _, _, rfl, hI.s12⟩
                  · have hx11 := hI.p11 (hd 11 (by decide))
                    subst hx11
                    have hx12 := hI.p12 (hd 12 (by decide))
                    subst hx12
                    have hx6 := hI.p6 (hd 6 (by decide))
                    subst hx6
                    rw [if_pos (by rfl)]
                    go_simp
                    exact hK.out _ _ ⟨_, _, _, _, _, _, _, _, _, _, _, _, _, _, _, _, _, rfl, hI.s13⟩
                  · have hx13 := hI.p13 (hd 13 (by decide))
                    subst hx13
                    have hx6 := hI.p6 (hd 6 (by decide))
                    subst hx6
                    rw [if_pos (by rfl)]
                    have hc2 := HS2.out _ hI.x
                    go_simp
                    exact hK.out _ _ ⟨_, _, _, _, _, _, _, _, _, _, _, _, _, _, _, _, _, rfl, hI.s14⟩
                  · have hx10 := hI.p10 (hd 10 (by decide))
                    subst hx10
                    have hx14 := hI.p14 (hd 14 (by decide))
                    subst hx14
                    have hx6 := hI.p6 (hd 6 (by decide))
                    subst hx6
                    rw [if_pos (by rfl)]
                    go_simp
                    exact hK.out _ _ ⟨_, _, _, _, _, _, _, _, _, _, _, _, _, _, _, _, _, rfl, hI.s15⟩
                  · have hx6 := hI.p6 (hd 6 (by decide))
                    subst hx6
                    have hx15 := hI.p15 (hd 15 (by decide))
                    subst hx15
                    rw [if_pos (by rfl)]
                    go_simp
                    exact hK.out _ _ ⟨_, _, _, _, _, _, _, _, _, _, _, _, _, _, _, _, _, rfl, hI.s16⟩
                · refine CG.ends ?_; intro x61 x62 x63 x64 x65 x66 x67 x68 x69 x70 x71 x72 x73 x74 x75 x76 x77 L W hall hI
                  have hx0 := hI.p0 (hall 0 (by decide))
                  subst hx0
                  have hx1 := hI.p1 (hall 1 (by decide))
                  subst hx1
                  have hx2 := hI.p2 (hall 2 (by decide))
                  subst hx2
                  have hx3 := hI.p3 (hall 3 (by decide))
                  subst hx3
                  have hx4 := hI.p4 (hall 4 (by decide))
                  subst hx4
                  have hx5 := hI.p5 (hall 5 (by decide))
                  subst hx5
                  have hx6 := hI.p6 (hall 6 (by decide))
                  subst hx6
                  have hx7 := hI.p7 (hall 7 (by decide))
                  subst hx7
                  have hx8 := hI.p8 (hall 8 (by decide))
                  subst hx8
                  have hx9 := hI.p9 (hall 9 (by decide))
                  subst hx9
                  have hx10 := hI.p10 (hall 10 (by decide))
                  subst hx10
                  have hx11 := hI.p11 (hall 11 (by decide))
                  subst hx11
                  have hx12 := hI.p12 (hall 12 (by decide))
                  subst hx12
                  have hx13 := hI.p13 (hall 13 (by decide))
                  subst hx13
                  have hx14 := hI.p14 (hall 14 (by decide))
                  subst hx14
                  have hx15 := hI.p15 (hall 15 (by decide))
                  subst hx15
                  have hx16 := hI.p16 (hall 16 (by decide))
                  subst hx16
                  have hXe := hI.x
                  clear hI hall
                  try dsimp only
                  subst hXe
                  go_wp2
                  go_ret
                  exact ⟨true, rfl, HBF.out, fun h => (by cases h), fun h => absurd (by have h2 := h.2; rw [HXL.out] at h2; exact h2) HNO.out⟩
            · have qe := eq_any (sha y) SH hyl hsl false (by rw [decide_eq_false heq])
              have HN2 := HNX.out (fun h => absurd h heq)
              have HN3 : Hid _ := HN2
              clear heq HNX HN2
              generalize (sha y).map B8 = HC at *
              generalize SH.map B8 = XC at *
              go_wp2_with fail
              refine wp_region_inv (ICH wi hg i hc k tg LEN c8 HC XC _ _ _ _ _ _ _ _ _ _ _ _ _ _ _ _ _ _ _ _ _ _ _ _ _ _ _ _ _ _ _ _ _ _ _ _ _ _ _ _ _ _ _ _ _ _ _ _ _ _ _ _ _ _ _ _ _ _ _ _ _ _ _ _ _) (by kernel_rfl) (by kernel_rfl) ⟨_, _, _, _, _, _, _, _, _, _, _, _, _, _, _, _, _, rfl, ⟨rfl, fun k => (by cases k), fun k => (by cases k), fun k => (by cases k), fun k => (by cases k), fun k => (by cases k), fun k => (by cases k), fun k => (by cases k), fun k => (by cases k)⟩⟩ ?_ ?_
              · refine .cons ?_ (.cons ?_ (.cons ?_ (.cons ?_ (.cons ?_ (.cons ?_ (.cons ?_ (.cons ?_ (.cons ?_ (.cons ?_ (.cons ?_ (.cons ?_ (.cons ?_ (.cons ?_ (.cons ?_ (.cons ?_ (.cons ?_ .nil))))))))))))))))
                all_goals (refine CH.step ?_; intro x61 x62 x63 x64 x65 x66 x67 x68 x69 x70 x71 x72 x73 x74 x75 x76 x77 L W hI hL hd K hK)
                · rw [if_pos (by rfl)]
                  go_simp
                  exact hK.out _ _ ⟨_, _, _, _, _, _, _, _, _, _, _, _, _, _, _, _, _, rfl, hI.s0⟩
                · rw [if_pos (by rfl)]
                  go_simp
                  exact hK.out _ _ ⟨_, _, _, _, _, _, _, _, _, _, _, _, _, _, _, _, _, rfl, hI.s1⟩
                · have hx0 := hI.p0 (hd 0 (by decide))
                  subst hx0
                  have hx1 := hI.p1 (hd 1 (by decide))
                  subst hx1
                  rw [if_pos (by rfl)]
                  go_simp
                  exact hK.out _ _ ⟨_, _, _, _, _, _, _, _, _, _, _, _, _, _, _, _, _, rfl, hI.s2⟩
                · have hx2 := hI.p2 (hd 2 (by decide))
                  subst hx2
                  refine step_load_rng rfl 32 _ rfl hg (k * 32) HC (HH1.out _ hI.x) rfl _ Try.underlying32 rfl (by rw [lh]; kernel_rfl) ?_
                  exact hK.out _ _ ⟨_, _, _, _, _, _, _, _, _, _, _, _, _, _, _, _, _, rfl, hI.s3⟩
                · refine step_load_Row rfl 32 _ rfl X 32 XC (HX1.out _ hI.x) rfl _ Try.underlying32 rfl (by rw [lx]; kernel_rfl) ?_
                  exact hK.out _ _ ⟨_, _, _, _, _, _, _, _, _, _, _, _, _, _, _, _, _, rfl, hI.s4⟩
                · have hx3 := hI.p3 (hd 3 (by decide))
                  subst hx3
                  have hx4 := hI.p4 (hd 4 (by decide))
                  subst hx4
                  rw [if_pos (by rfl)]
                  go_simp
                  exact hK.out _ _ ⟨_, _, _, _, _, _, _, _, _, _, _, _, _, _, _, _, _, rfl, hI.s5⟩
                · have hx5 := hI.p5 (hd 5 (by decide))
                  subst hx5
                  rw [if_pos (by rfl)]
                  go_simp
                  exact hK.out _ _ ⟨_, _, _, _, _, _, _, _, _, _, _, _, _, _, _, _, _, rfl, hI.s6⟩
                · have hx6 := hI.p6 (hd 6 (by decide))
                  subst hx6
                  rw [if_neg (by first | decide | exact Bool.false_ne_true)]
                  exact hK.out _ _ ⟨_, _, _, _, _, _, _, _, _, _, _, _, _, _, _, _, _, rfl, hI.s7⟩
                · have hx6 := hI.p6 (hd 6 (by decide))
                  subst hx6
                  rw [if_neg (by first | decide | exact Bool.false_ne_true)]
                  exact hK.out _ _ ⟨_, _, _, _, _, _, _, _, _, _, _, _, _, _, _, _, _, rfl, hI.s8⟩
                · have hx6 := hI.p6 (hd 6 (by decide))
                  subst hx6
                  rw [if_neg (by first | decide | exact Bool.false_ne_true)]
                  exact hK.out _ _ ⟨_, _, _, _, _, _, _, _, _, _, _, _, _, _, _, _, _, rfl, hI.s9⟩
                · have hx6 := hI.p6 (hd 6 (by decide))
                  subst hx6
                  rw [if_neg (by first | decide | exact Bool.false_ne_true)]
                  exact hK.out _ _ ⟨_, _, _, _, _, _, _, _, _, _, _, _, _, _, _, _, _, rfl, hI.s10⟩
                · have hx6 := hI.p6 (hd 6 (by decide))
                  subst hx6
                  rw [if_neg (by first | decide | exact Bool.false_ne_true)]
                  exact hK.out _ _ ⟨_, _, _, _, _, _, _, _, _, _, _, _, _, _, _, _, _, rfl, hI.s11⟩
                · have hx6 := hI.p6 (hd 6 (by decide))
                  subst hx6
                  rw [if_neg (by first | decide | exact Bool.false_ne_true)]
                  exact hK.out _ _ ⟨_, _, _, _, _, _, _, _, _, _, _, _, _, _, _, _, _, rfl, hI.s12⟩
                · have hx6 := hI.p6 (hd 6 (by decide))
                  subst hx6
                  rw [if_neg (by first | decide | exact Bool.false_ne_true)]
                  exact hK.out _ _ ⟨_, _, _, _, _, _, _, _, _, _, _, _, _, _, _, _, _, rfl, hI.s13⟩
                · have hx6 := hI.p6 (hd 6 (by decide))
                  subst hx6
                  rw [if_neg (by first | decide | exact Bool.false_ne_true)]
                  exact hK.out _ _ ⟨_, _, _, _, _, _, _, _, _, _, _, _, _, _, _, _, _, rfl, hI.s14⟩
                · have hx6 := hI.p6 (hd 6 (by decide))
                  subst hx6
                  rw [if_neg (by first | decide | exact Bool.false_ne_true)]
                  exact hK.out _ _ ⟨_, _, _, _, _, _, _, _, _, _, _, _, _, _, _, _, _, rfl, hI.s15⟩
                · have hx6 := hI.p6 (hd 6 (by decide))
                  subst hx6
                  rw [if_pos (by rfl)]
                  go_simp
                  exact hK.out _ _ ⟨_, _, _, _, _, _, _, _, _, _, _, _, _, _, _, _, _, rfl, hI.s16⟩
              · refine CH.ends ?_; intro x61 x62 x63 x64 x65 x66 x67 x68 x69 x70 x71 x72 x73 x74 x75 x76 x77 L W hall hI
                have hx0 := hI.p0 (hall 0 (by decide))
                subst hx0
                have hx1 := hI.p1 (hall 1 (by decide))
                subst hx1
                have hx2 := hI.p2 (hall 2 (by decide))
                subst hx2
                have hx3 := hI.p3 (hall 3 (by decide))
                subst hx3
                have hx4 := hI.p4 (hall 4 (by decide))
                subst hx4
                have hx5 := hI.p5 (hall 5 (by decide))
                subst hx5
                have hx6 := hI.p6 (hall 6 (by decide))
                subst hx6
                have hx16 := hI.p16 (hall 16 (by decide))
                subst hx16
                have hXe := hI.x
                clear hI hall
                try dsimp only
                subst hXe
                go_wp2
                exact ⟨⟨k + 1, by omega, by go_num, HDW, HN3⟩, by simp [intOf]; omega⟩
          · obtain rfl : k = i := by omega
            have x1 : ¬ ((k : Nat) : Int) < (k : Int) := by omega
            have H6 := H5.out.dr HD.out
            have rX := r5.out.dr HD.out
            have ba : Hid (Below wi.heap.size wi (wi.alloc (.cells (SH.map B8).toArray 32))) := (Below.refl _ _).alloc (Nat.le_refl _) _
            have H7 : Hid (HS w.heap.size w (wi.alloc (.cells (SH.map B8).toArray 32)) (some ⟨tg, 0, none⟩) LEN c8 ALL k ho hc) := H6.keep ba.out
            have rB : Hid (Row (wi.alloc (.cells (SH.map B8).toArray 32)) wi.heap.size 32 (SH.map B8)) := Row.at wi _ _ _ _ rfl rfl
            have H1S : Hid (∀ u ∈ SH.map B8, u.oneCell' = true) := B8_one SH
            have hfold : List.foldl (fun (cs : Array Value) (x : Value × Nat) => cs.setIfInBounds x.2 x.1) #[.int .u8 0, .int .u8 0, .int .u8 0, .int .u8 0, .int .u8 0, .int .u8 0, .int .u8 0, .int .u8 0, .int .u8 0, .int .u8 0, .int .u8 0, .int .u8 0, .int .u8 0, .int .u8 0, .int .u8 0, .int .u8 0, .int .u8 0, .int .u8 0, .int .u8 0, .int .u8 0, .int .u8 0, .int .u8 0, .int .u8 0, .int .u8 0, .int .u8 0, .int .u8 0, .int .u8 0, .int .u8 0, .int .u8 0, .int .u8 0, .int .u8 0, .int .u8 0] (SH.map B8).zipIdx = (SH.map B8).toArray := fold_setv (SH.map B8) [] z32 (by rw [lx]; rfl)
            clear H6
            go_wp2_with (first | (refine wpList_load_Row rfl 32 (.tmp 16) rfl X 32 (SH.map B8) rX rfl _ Try.underlying32 rfl (by rw [lx]; kernel_rfl) ?_) | (at_builtin; refine wpList_append_where el_hash rfl (.tmp 78) (.tmp 80) rfl w.heap.size w ho k hc _ rfl H7.out.h.1 H7.out.h.2.1 H7.out.b wi.heap.size 0 1 1 (SH.map B8) rfl (by rw [lx]) (fun q u hu => by rw [Nat.zero_add]; exact rB.out.cell q u hu) (by omega) H1S.out (by unfold maxLen; omega) (by omega) ?_; intro ho2 hc2 w9 q1 q2 q3 q4 q5))
            have H9 : Hid (HS w.heap.size w w9 (some ⟨tg, 0, none⟩) LEN c8 ALL (k + 1) ho2 hc2) := H7.out.push HBI.out (by rw [HSH.out]; exact q1) q2 q3 q4 fun j y hj hy e => HJ.out j y hj hy (by rw [e, HSH.out])
            exact ⟨⟨k + 1, ho2, hc2, by omega, rfl, by go_num, H9⟩, by simp [intOf]; omega⟩
      · obtain rfl : i = LEN := by omega
        have y1 : ¬ ((i : Nat) : Int) < (i : Int) := by omega
        have HNC : Hid (NoClash (rowL xs xs.length ++ rowL ys ys.length)) := by
          show NoClash _
          rw [HXL.out]
          exact noclash_of fun a k x y h1 h2 h3 h4 => HH.out.c a k x y h1 (by rw [← HAL.out]; exact (List.getElem?_eq_some_iff.1 h2).1) h2 h3 h4
        have HB : Hid (Below w.heap.size w wr) := HH.out.b
        clear HH
        go_wp2
        go_ret
        exact ⟨false, rfl, HB.out, fun _ => ⟨HTG.out, HNC.out⟩, fun _ => rfl⟩
  · have sb := strOf_beq (msg n1 xs) (msg n2 ys) false (by rw [decide_eq_false hms])
    have MC1 := refMac_any ko a1 kn kc (nb + 57) c1 key (msg n1 xs) HKN.out HL1.out w2 (HKI.out _ B2.out) (own_IsB O2.out) HKK.out (own_isb O2.out).2.1 (by omega) (by omega)
    have MC2 : Hid (∀ W, Below w2.heap.size w2 W → Calls Try.prog 38 #[.slice ko kn kc, .slice a2 (mb + 57) c2] W fun e w' => e = .returned (.agg ((tag key (msg n2 ys)).map B8).toArray) ∧ Below W.heap.size W w') := fun W h => refMac_any ko a2 kn kc (mb + 57) c2 key (msg n2 ys) HKN.out HL2.out W (HKI.out _ (B2.out.trans (h.mono B2.out.size))) (own_IsB (O3.out.keep h)) HKK.out (own_isb O3.out).2.1 (by omega) (by omega)
    obtain ⟨r, hr⟩ : ∃ r, r = decide (tag key (msg n1 xs) = tag key (msg n2 ys)) := ⟨_, rfl⟩
    have qe := eq_any (tag key (msg n1 xs)) (tag key (msg n2 ys)) (shaLen _) (shaLen _) r hr
    have HR : Hid (r = decide (tag key (msg n1 xs) = tag key (msg n2 ys))) := hr
    have HN1 : Hid (r = true → ¬ ((tag key (msg n1 xs) = tag key (msg n2 ys) → msg n1 xs = msg n2 ys) ∧ NoClash (rowL xs xs.length ++ rowL ys ys.length))) := fun hrt h => hms (h.1 (of_decide_eq_true (by rw [← hr]; exact hrt)))
    clear hr hms O2 O3 HKI HL1 HL2
    generalize strOf (msg n1 xs) = SA at *
    generalize strOf (msg n2 ys) = SB at *
    generalize (tag key (msg n1 xs)).map B8 = TA at *
    generalize (tag key (msg n2 ys)).map B8 = TB at *
    go_wp2_with fail
    refine MC1.mono ?_
    clear MC1 cv1 cv2
    rintro e w3 ⟨rfl, b3⟩
    dsimp only
    have C3 : Hid (Below w2.heap.size w2 w3) := b3
    clear b3
    go_wp2_with fail
    refine (MC2.out _ C3.out).mono ?_
    clear MC2
    rintro e w4 ⟨rfl, b4⟩
    dsimp only
    have B5 : Hid (Below w.heap.size w w4) := B2.out.trans ((C3.out.trans (b4.mono C3.out.size)).mono B2.out.size)
    clear b4 B2 C3
    cases r with
    | true =>
      have HN2 : Hid (¬ ((tag key (msg n1 xs) = tag key (msg n2 ys) → msg n1 xs = msg n2 ys) ∧ NoClash (rowL xs xs.length ++ rowL ys ys.length))) := HN1.out rfl
      clear HR HN1
      go_wp2
      go_ret
      exact ⟨true, rfl, B5.out, fun h => (by cases h), fun h => absurd h HN2.out⟩
    | false =>
      have HTG : Hid (tag key (msg n1 xs) = tag key (msg n2 ys) → msg n1 xs = msg n2 ys) := fun h => absurd h (of_decide_eq_false HR.out.symm)
      clear HR HN1
      go_wp2_with fail
      clear qe
      refine (R1.out _ B5.out).mono ?_
      rintro e w6 ⟨a6, c6, rfl, t6, b6⟩
      dsimp only
      have B6 : Hid (Below w.heap.size w w6) := B5.out.trans (b6.mono B5.out.size)
      have T6 : Hid (OwnT w.heap.size w6 a6 (2 * n) c6 (rowL xs n)) := t6.le B5.out.size
      clear t6 b6 B5
      go_wp2_with fail
      refine (R2.out _ B6.out).mono ?_
      rintro e w7 ⟨a7, c7, rfl, t7, b7⟩
      dsimp only
      have B7 : Hid (Below w.heap.size w w7) := B6.out.trans (b7.mono B6.out.size)
      have T67 : Hid (OwnT w.heap.size w7 a6 (2 * n) c6 (rowL xs n)) := T6.out.keep b7
      have T7 : Hid (OwnT w7.heap.size w7 a7 (2 * m) c7 (rowL ys m) ∨ OwnT w.heap.size w7 a7 (2 * m) c7 (rowL ys m)) := .inr (t7.le B6.out.size)
      have L7 : Hid (IsL w7 a7 ((rowL ys m).map fun b => .string (strOf b)) ∧ (a7 = none → c7 = 0)) := t7.isl
      have N7 : Hid (((rowL ys m).map fun b => Value.string (strOf b)).length = 2 * m * 1) := by show _ = _; rw [List.length_map, rowL_len, Nat.mul_one]
      have S7 : Hid (∀ u ∈ ((rowL ys m).map fun b => Value.string (strOf b)), u.oneCell' = true) := fun u hu => by obtain ⟨z, _, rfl⟩ := List.mem_map.1 hu; rfl
      clear t7 b7 T6 B6 T7 R1 R2
      go_wp2_with (at_builtin; refine wpList_append_gen el_strs rfl (.tmp 39) (.tmp 41) rfl w.heap.size w a6 (2 * n) c6 _ rfl T67.out.1 T67.out.2.1 B7.out a7 (2 * m) c7 _ rfl N7.out L7.out.1 S7.out L7.out.2 (by unfold maxLen; omega) (by omega) ?_; intro a8 c8 w8 q1 q2 q3 q4)
      have T8 : OwnT w.heap.size w8 a8 (2 * n + 2 * m) c8 (rowL xs n ++ rowL ys m) := ⟨by rw [List.map_append]; exact q1, Nat.le_trans T67.out.2.1 q3, HAL.out⟩
      have H9 : Hid (HS w.heap.size w (w8.alloc (.cells #[] 32)) a8 (2 * n + 2 * m) c8 (rowL xs n ++ rowL ys m) 0 (some ⟨w8.heap.size, 0, none⟩) 0) := by
        have ba : Below w8.heap.size w8 (w8.alloc (.cells #[] 32)) := (Below.refl _ _).alloc (Nat.le_refl _) _
        refine ⟨T8.keep ba, ⟨⟨by simp [hCells], .inr ⟨w8.heap.size, 0, #[], rfl, T8.2.1, heap_alloc_new w8 _, Nat.le_refl _, by unfold maxLen; omega, by simp, by simp [hCells]⟩⟩, by have := T8.2.1; simp; omega, rfl, fun h hh => by simp at hh⟩, q2.trans (ba.mono T8.2.1), fun a b x y h1 h2 => absurd h2 (by omega)⟩
      clear T8 q1 q2 q3 q4 T67 B7 L7 N7 S7
      generalize hALL : rowL xs n ++ rowL ys m = ALL at *
      clear hALL
      generalize hLEN : 2 * n + 2 * m = LEN at *
      have hlen : LEN ≤ 4096 := by omega
      go_wp2
      go_loopw [14, 15] (fun hv iv wr => ∃ (i : Nat) (ho : Option Addr) (hc : Nat), i ≤ LEN ∧ hv = .slice ho i hc ∧ iv = .int .i64 i ∧ Hid (HS w.heap.size w wr a8 LEN c8 ALL i ho hc)) (fun _ iv _ => LEN - (intOf iv).toNat)
      case atStart => exact ⟨0, _, _, by omega, rfl, rfl, H9⟩
      case round =>
        clear H9
        obtain ⟨i, ho, hc, hi, rfl, rfl, HH⟩ := hrel
        by_cases hlt : i < LEN
        · have y0 : (0 : Int) ≤ (i : Int) := by omega
          have y1 : (i : Int) < (LEN : Int) := by omega
          obtain ⟨b, hb⟩ : ∃ b, ALL[i]? = some b := ⟨_, List.getElem?_eq_getElem (by rw [HAL.out]; exact hlt)⟩
          obtain ⟨tg, htg, hcl⟩ := HH.out.t.cell i b hb
          subst htg
          obtain ⟨cc, w3, hcv, ib3, b3⟩ := conv_back wr b
          have hbl : b.length ≤ 64 := HBL.out b (List.mem_of_getElem? hb)
          have RF : Hid (Calls Try.prog 34 #[.slice (some ⟨wr.heap.size, 0, none⟩) b.length cc] w3 fun e w' => e = .returned (.agg ((sha b).map B8).toArray) ∧ Below w3.heap.size w3 w') := ref_n _ cc b.length b rfl (sha b) rfl w3 ib3 (fun h => by cases h) (by omega)
          have H3 : Hid (HS w.heap.size w w3 (some ⟨tg, 0, none⟩) LEN c8 ALL i ho hc) := HH.out.keep b3
          have HBI : Hid (ALL[i]? = some b) := hb
          clear ib3 b3 hb HH
          have hsl : (sha b).length = 32 := shaLen b
          generalize hSH : sha b = SH at *
          have HSH : Hid (sha b = SH) := hSH
          clear hSH
          go_wp2_with fail
          refine RF.out.mono ?_
          clear RF hcv hcl
          rintro e w4 ⟨rfl, b4⟩
          dsimp only
          have H4 : Hid (HS w.heap.size w w4 (some ⟨tg, 0, none⟩) LEN c8 ALL i ho hc) := H3.out.keep b4
          clear b4 H3
          generalize hX : w4.heap.size = X at *
          have lx : (SH.map B8).length = 32 := by rw [List.length_map, hsl]
          go_wp2_with (refine wpList_store_Row rfl 32 _ _ rfl X 32 0 z32 (SH.map B8) (Row.at w4 _ _ _ _ hX.symm rfl) (by simp [hsl]) rfl rfl (by rw [lx]; kernel_rfl) (B8_one _) ?_; intro w5 hr5 hs5; have r5 : Hid (Row w5 X 32 (SH.map B8)) := row_whole hr5 (by simp [hsl]); have H5 : Hid (HS w.heap.size w w5 (some ⟨tg, 0, none⟩) LEN c8 ALL i ho hc) := H4.out.keep (hs5.below ((Below.refl _ _).alloc (Nat.le_refl _) _) (by omega)); clear hr5 hs5 H4)
          go_loopw [17] (fun kv wi => ∃ k : Nat, k ≤ i ∧ kv = .int .i64 k ∧ Hid (Dr w5 wi) ∧ Hid (∀ (j : Nat) (y : List By), j < k → ALL[j]? = some y → sha y = SH → y = b)) (fun kv _ => i - (intOf kv).toNat)
          case atStart => exact ⟨0, by omega, rfl, Dr.refl _, fun j y h => absurd h (by omega)⟩
          case round =>
            obtain ⟨k, hk, rfl, HD, HJ⟩ := hrel
            obtain ⟨wi, hwi⟩ : ∃ wi, wi = wr := ⟨wr, rfl⟩
            subst hwi
            by_cases hki : k < i
            · have x0 : (0 : Int) ≤ (k : Int) := by omega
              have x1 : (k : Int) < (i : Int) := by omega
              have x2 : (k : Int) < (LEN : Int) := by omega
              have HI := H5.out.dr HD.out
              obtain ⟨y, hy⟩ : ∃ y, ALL[k]? = some y := ⟨_, List.getElem?_eq_getElem (by rw [HAL.out]; omega)⟩
              obtain ⟨hg, hhg, hrk⟩ := HI.h.at k (sha y) (by rw [List.getElem?_map, List.getElem?_take, if_pos hki, hy]; rfl)
              subst hhg
              obtain ⟨tg2, et, hs1⟩ := HI.t.cell k y hy
              injection et with et
              injection et with et
              subst et
              obtain ⟨tg3, et3, hs2⟩ := HI.t.cell i b HBI.out
              injection et3 with et3
              injection et3 with et3
              subst et3
              have rX := r5.out.dr HD.out
              have HH1 : Hid (∀ W, W = wi.drew → W.rangeAt hg (k * 32) ((sha y).map B8)) := fun W h => by subst h; exact hrk
              have HX1 : Hid (∀ W, W = wi.drew → Row W X 32 (SH.map B8)) := fun W h => by subst h; exact rX
              have HS1 : Hid (∀ W, W = wi.drew → W.cell? ⟨tg, k, none⟩ = some (.string (strOf y))) := fun W h => by subst h; exact hs1
              have HS2 : Hid (∀ W, W = wi.drew → W.cell? ⟨tg, i, none⟩ = some (.string (strOf b))) := fun W h => by subst h; exact hs2
              have HDW : Hid (Dr w5 wi.drew) := HD.out.drewN 1
              have HBF : Hid (Below w.heap.size w wi.drew) := Below_dr H5.out.b HDW.out
              have hyl : (sha y).length = 32 := shaLen y
              have lh : ((sha y).map B8).length = 32 := by rw [List.length_map, hyl]
              have HNX : Hid ((sha y = SH → y = b) → ∀ (j : Nat) (z : List By), j < k + 1 → ALL[j]? = some z → sha z = SH → z = b) := by
                intro h j z hj hz e
                rcases Nat.lt_or_ge j k with h1 | h1
                · exact HJ.out j z h1 hz e
                · obtain rfl : j = k := by omega
                  rw [hy] at hz
                  injection hz with hz
                  subst hz
                  exact h e
              have HYM : Hid (y ∈ ALL ∧ b ∈ ALL) := ⟨List.mem_of_getElem? hy, List.mem_of_getElem? HBI.out⟩
              clear HI hrk hs1 hs2 rX hy HJ HD
              by_cases heq : sha y = SH
              · have qe := eq_any (sha y) SH hyl hsl true (by rw [decide_eq_true heq])
                by_cases hyb : y = b
                · have HN2 := HNX.out (fun _ => hyb)
                  have sb := strOf_beq y b true (by rw [decide_eq_true hyb])
                  have HN3 : Hid _ := HN2
                  clear heq hyb HNX HN2
                  generalize (sha y).map B8 = HC at *
                  generalize SH.map B8 = XC at *
                  generalize strOf y = S1 at *
                  generalize strOf b = S2 at *
                  go_wp2_with fail
                  refine wp_region_inv (ICG wi hg i hc k tg LEN c8 HC XC S1 S2 false _ _ _ _ _ _ _ _ _ _ _ _ _ _ _ _ _ _ _ _ _ _ _ _ _ _ _ _ _ _ _ _ _ _ _ _ _ _ _ _ _ _ _ _ _ _ _ _ _ _ _ _ _ _ _ _ _ _ _ _ _ _ _ _ _) (by kernel_rfl) (by kernel_rfl) ⟨_, _, _, _, _, _, _, _, _, _, _, _, _, _, _, _, _, rfl, ⟨rfl, fun k => (by cases k), fun k => (by cases k), fun k => (by cases k), fun k => (by cases k), fun k => (by cases k), fun k => (by cases k), fun k => (by cases k), fun k => (by cases k), fun k => (by cases k), fun k => (by cases k), fun k => (by cases k), fun k => (by cases k), fun k => (by cases k), fun k => (by cases k), fun k => (by cases k), fun k => (by cases k), fun k => (by cases k)⟩⟩ ?_ ?_
                  · refine .cons ?_ (.cons ?_ (.cons ?_ (.cons ?_ (.cons ?_ (.cons ?_ (.cons ?_ (.cons ?_ (.cons ?_ (.cons ?_ (.cons ?_ (.cons ?_ (.cons ?_ (.cons ?_ (.cons ?_ (.cons ?_ (.cons ?_ .nil))))))))))))))))
                    all_goals (refine CG.step ?_; intro x61 x62 x63 x64 x65 x66 x67 x68 x69 x70 x71 x72 x73 x74 x75 x76 x77 L W hI hL hd K hK)
                    · rw [if_pos (by rfl)]
                      go_simp
                      exact hK.out _ _ ⟨_, _, _, _, _, _, _, _, _, _, _, _, _, _, _, _, _, rfl, hI.s0⟩
                    · rw [if_pos (by rfl)]
                      go_simp
                      exact hK.out _ _ ⟨_, _, _, _, _, _, _, _, _, _, _, _, _, _, _, _, _, rfl, hI.s1⟩
                    · have hx0 := hI.p0 (hd 0 (by decide))
                      subst hx0
                      have hx1 := hI.p1 (hd 1 (by decide))
                      subst hx1
                      rw [if_pos (by rfl)]
                      go_simp
                      exact hK.out _ _ ⟨_, _, _, _, _, _, _, _, _, _, _, _, _, _, _, _, _, rfl, hI.s2⟩
                    · have hx2 := hI.p2 (hd 2 (by decide))
                      subst hx2
                      refine step_load_rng rfl 32 _ rfl hg (k * 32) HC (HH1.out _ hI.x) rfl _ Try.underlying32 rfl (by rw [lh]; kernel_rfl) ?_
                      exact hK.out _ _ ⟨_, _, _, _, _, _, _, _, _, _, _, _, _, _, _, _, _, rfl, hI.s3⟩
                    · refine step_load_Row rfl 32 _ rfl X 32 XC (HX1.out _ hI.x) rfl _ Try.underlying32 rfl (by rw [lx]; kernel_rfl) ?_
                      exact hK.out _ _ ⟨_, _, _, _, _, _, _, _, _, _, _, _, _, _, _, _, _, rfl, hI.s4⟩
                    · have hx3 := hI.p3 (hd 3 (by decide))
                      subst hx3
                      have hx4 := hI.p4 (hd 4 (by decide))
                      subst hx4
                      rw [if_pos (by rfl)]
                      go_simp
                      exact hK.out _ _ ⟨_, _, _, _, _, _, _, _, _, _, _, _, _, _, _, _, _, rfl, hI.s5⟩
                    · have hx5 := hI.p5 (hd 5 (by decide))
                      subst hx5
                      rw [if_pos (by rfl)]
                      go_simp
                      exact hK.out _ _ ⟨_, _, _, _, _, _, _, _, _, _, _, _, _, _, _, _, _, rfl, hI.s6⟩
                    · have hx6 := hI.p6 (hd 6 (by decide))
                      subst hx6
                      rw [if_pos (by rfl)]
                      go_simp
                      exact hK.out _ _ ⟨_, _, _, _, _, _, _, _, _, _, _, _, _, _, _, _, _, rfl, hI.s7⟩
                    · have hx6 := hI.p6 (hd 6 (by decide))
                      subst hx6
                      rw [if_pos (by rfl)]
                      go_simp
                      exact hK.out _ _ ⟨_, _, _, _, _, _, _, _, _, _, _, _, _, _, _, _, _, rfl, hI.s8⟩
                    · have hx7 := hI.p7 (hd 7 (by decide))
                      subst hx7
                      have hx8 := hI.p8 (hd 8 (by decide))
                      subst hx8
                      have hx6 := hI.p6 (hd 6 (by decide))
                      subst hx6
                      rw [if_pos (by rfl)]
                      go_simp
                      exact hK.out _ _ ⟨_, _, _, _, _, _, _, _, _, _, _, _, _, _, _, _, _, rfl, hI.s9⟩
                    · have hx9 := hI.p9 (hd 9 (by decide))
                      subst hx9
                      have hx6 := hI.p6 (hd 6 (by decide))
                      subst hx6
                      rw [if_pos (by rfl)]
                      have hc1 := HS1.out _ hI.x
                      go_simp
                      exact hK.out _ _ ⟨_, _, _, _, _, _, _, _, _, _, _, _, _, _, _, _, _, rfl, hI.s10⟩
                    · have hx6 := hI.p6 (hd 6 (by decide))
                      subst hx6
                      rw [if_pos (by rfl)]
                      go_simp
                      exact hK.out _ _ ⟨_, _, _, _, _, _, _, _, _, _, _, _, _, _, _, _, _, rfl, hI.s11⟩
                    · have hx6 := hI.p6 (hd 6 (by decide))
                      subst hx6
                      rw [if_pos (by rfl)]
                      go_simp
                      exact hK.out _ _ ⟨_, _, _, _, _, _, _, _, _, _, _, _, _, _, _, _, _, rfl, hI.s12⟩
                    · have hx11 := hI.p11 (hd 11 (by decide))
                      subst hx11
                      have hx12 := hI.p12 (hd 12 (by decide))
                      subst hx12
                      have hx6 := hI.p6 (hd 6 (by decide))
                      subst hx6
                      rw [if_pos (by rfl)]
                      go_simp
                      exact hK.out _ _ ⟨_, _, _, _, _, _, _, _, _, _, _, _, _, _, _, _, _, rfl, hI.s13⟩
                    · have hx13 := hI.p13 (hd 13 (by decide))
                      subst hx13
                      have hx6 := hI.p6 (hd 6 (by decide))
                      subst hx6
                      rw [if_pos (by rfl)]
                      have hc2 := HS2.out _ hI.x
                      go_simp
                      exact hK.out _ _ ⟨_, _, _, _, _, _, _, _, _, _, _, _, _, _, _, _, _, rfl, hI.s14⟩
                    · have hx10 := hI.p10 (hd 10 (by decide))
                      subst hx10
                      have hx14 := hI.p14 (hd 14 (by decide))
                      subst hx14
                      have hx6 := hI.p6 (hd 6 (by decide))
                      subst hx6
                      rw [if_pos (by rfl)]
                      go_simp
                      exact hK.out _ _ ⟨_, _, _, _, _, _, _, _, _, _, _, _, _, _, _, _, _, rfl, hI.s15⟩
                    · have hx6 := hI.p6 (hd 6 (by decide))
                      subst hx6
                      have hx15 := hI.p15 (hd 15 (by decide))
                      subst hx15
                      rw [if_pos (by rfl)]
                      go_simp
                      exact hK.out _ _ ⟨_, _, _, _, _, _, _, _, _, _, _, _, _, _, _, _, _, rfl, hI.s16⟩
                  · refine CG.ends ?_; intro x61 x62 x63 x64 x65 x66 x67 x68 x69 x70 x71 x72 x73 x74 x75 x76 x77 L W hall hI
                    have hx0 := hI.p0 (hall 0 (by decide))
                    subst hx0
                    have hx1 := hI.p1 (hall 1 (by decide))
                    subst hx1
                    have hx2 := hI.p2 (hall 2 (by decide))
                    subst hx2
                    have hx3 := hI.p3 (hall 3 (by decide))
                    subst hx3
                    have hx4 := hI.p4 (hall 4 (by decide))
                    subst hx4
                    have hx5 := hI.p5 (hall 5 (by decide))
                    subst hx5
                    have hx6 := hI.p6 (hall 6 (by decide))
                    subst hx6
                    have hx7 := hI.p7 (hall 7 (by decide))
                    subst hx7
                    have hx8 := hI.p8 (hall 8 (by decide))
                    subst hx8
                    have hx9 := hI.p9 (hall 9 (by decide))
                    subst hx9
                    have hx10 := hI.p10 (hall 10 (by decide))
                    subst hx10
                    have hx11 := hI.p11 (hall 11 (by decide))
                    subst hx11
                    have hx12 := hI.p12 (hall 12 (by decide))
                    subst hx12
                    have hx13 := hI.p13 (hall 13 (by decide))
                    subst hx13
                    have hx14 := hI.p14 (hall 14 (by decide))
                    subst hx14
                    have hx15 := hI.p15 (hall 15 (by decide))
                    subst hx15
                    have hx16 := hI.p16 (hall 16 (by decide))
                    subst hx16
                    have hXe := hI.x
                    clear hI hall
                    try dsimp only
                    subst hXe
                    go_wp2
                    exact ⟨⟨k + 1, by omega, by go_num, HDW, HN3⟩, by simp [intOf]; omega⟩
                · have sb := strOf_beq y b false (by rw [decide_eq_false hyb])
                  have HNO : Hid (¬ NoClash ALL) := fun h => hyb (h y HYM.out.1 b HYM.out.2 (heq.trans HSH.out.symm))
                  clear heq hyb HNX HYM
                  generalize (sha y).map B8 = HC at *
                  generalize SH.map B8 = XC at *
                  generalize strOf y = S1 at *
                  generalize strOf b = S2 at *
                  go_wp2_with fail
                  refine wp_region_inv (ICG wi hg i hc k tg LEN c8 HC XC S1 S2 true _ _ _ _ _ _ _ _ _ _ _ _ _ _ _ _ _ _ _ _ _ _ _ _ _ _ _ _ _ _ _ _ _ _ _ _ _ _ _ _ _ _ _ _ _ _ _ _ _ _ _ _ _ _ _ _ _ _ _ _ _ _ _ _ _) (by kernel_rfl) (by kernel_rfl) ⟨_, _, _, _, _, _, _, _, _, _, _, _, _, _, _, _, _, rfl, ⟨rfl, fun k => (by cases k), fun k => (by cases k), fun k => (by cases k), fun k => (by cases k), fun k => (by cases k), fun k => (by cases k), fun k => (by cases k), fun k => (by cases k), fun k => (by cases k), fun k => (by cases k), fun k => (by cases k), fun k => (by cases k), fun k => (by cases k), fun k => (by cases k), fun k => (by cases k), fun k => (by cases k), fun k => (by cases k)⟩⟩ ?_ ?_
                  · refine .cons ?_ (.cons ?_ (.cons ?_ (.cons ?_ (.cons ?_ (.cons ?_ (.cons ?_ (.cons ?_ (.cons ?_ (.cons ?_ (.cons ?_ (.cons ?_ (.cons ?_ (.cons ?_ (.cons ?_ (.cons ?_ (.cons ?_ .nil))))))))))))))))
                    all_goals (refine CG.step ?_; intro x61 x62 x63 x64 x65 x66 x67 x68 x69 x70 x71 x72 x73 x74 x75 x76 x77 L W hI hL hd K hK)
                    · rw [if_pos (by rfl)]
                      go_simp
                      exact hK.out _ _ ⟨_, _, _, _, _, _, _, _, _, _, _, _, _, _, _, _, _, rfl, hI.s0⟩
                    · rw [if_pos (by rfl)]
                      go_simp
                      exact hK.out _ _ ⟨_, _, _, _, _, _, _, _, _, _, _, _, _, _, _, _, _, rfl, hI.s1⟩
                    · have hx0 := hI.p0 (hd 0 (by decide))
                      subst hx0
                      have hx1 := hI.p1 (hd 1 (by decide))
                      subst hx1
                      rw [if_pos (by rfl)]
                      go_simp
                      exact hK.out _ _ ⟨_, _, _, _, _, _, _, _, _, _, _, _, _, _, _, _, _, rfl, hI.s2⟩
                    · have hx2 := hI.p2 (hd 2 (by decide))
                      subst hx2
                      refine step_load_rng rfl 32 _ rfl hg (k * 32) HC (HH1.out _ hI.x) rfl _ Try.underlying32 rfl (by rw [lh]; kernel_rfl) ?_
                      exact hK.out _ _ ⟨_, _, _, _, _, _, _, _, _, _, _, _, _, _, _, _, _, rfl, hI.s3⟩
                    · refine step_load_Row rfl 32 _ rfl X 32 XC (HX1.out _ hI.x) rfl _ Try.underlying32 rfl (by rw [lx]; kernel_rfl) ?_
                      exact hK.out _ _ ⟨_, _, _, _, _, _, _, _, _, _, _, _, _, _, _, _, _, rfl, hI.s4⟩
                    · have hx3 := hI.p3 (hd 3 (by decide))
                      subst hx3
                      have hx4 := hI.p4 (hd 4 (by decide))
                      subst hx4
                      rw [if_pos (by rfl)]
                      go_simp
                      exact hK.out _ _ ⟨_, _, _, _, _, _, _, _, _, _, _, _, _, _, _, _, _, rfl, hI.s5⟩
                    · have hx5 := hI.p5 (hd 5 (by decide))
                      subst hx5
                      rw [if_pos (by rfl)]
                      go_simp
                      exact hK.out _ _ ⟨_, _, _, _, _, _, _, _, _, _, _, _, _, _, _, _, _, rfl, hI.s6⟩
                    · have hx6 := hI.p6 (hd 6 (by decide))
                      subst hx6
                      rw [if_pos (by rfl)]
                      go_simp
                      exact hK.out _ _ ⟨_, _, _, _, _, _, _, _, _, _, _, _, _, _, _, _, _, rfl, hI.s7⟩
                    · have hx6 := hI.p6 (hd 6 (by decide))
                      subst hx6
                      rw [if_pos (by rfl)]
                      go_simp
                      exact hK.out _ _ ⟨_, _, _, _, _, _, _, _, _, _, _, _, _, _, _, _, _, rfl, hI.s8⟩
                    · have hx7 := hI.p7 (hd 7 (by decide))
                      subst hx7
                      have hx8 := hI.p8 (hd 8 (by decide))
                      subst hx8
                      have hx6 := hI.p6 (hd 6 (by decide))
                      subst hx6
                      rw [if_pos (by rfl)]
                      go_simp
                      exact hK.out _ _ ⟨_, _, _, _, _, _, _, _, _, _, _, _, _, _, _, _, _, rfl, hI.s9⟩
                    · have hx9 := hI.p9 (hd 9 (by decide))
                      subst hx9
                      have hx6 := hI.p6 (hd 6 (by decide))
                      subst hx6
                      rw [if_pos (by rfl)]
                      have hc1 := HS1.out _ hI.x
                      go_simp
                      exact hK.out _ _ ⟨_, _, _, _, _, _, _, _, _, _, _, _, _, _, _, _, _, rfl, hI.s10⟩
                    · have hx6 := hI.p6 (hd 6 (by decide))
                      subst hx6
                      rw [if_pos (by rfl)]
                      go_simp
                      exact hK.out _ _ ⟨_, _, _, _, _, _, _, _, _, _, _, _, _, _, _, _, _, rfl, hI.s11⟩
                    · have hx6 := hI.p6 (hd 6 (by decide))
                      subst hx6
                      rw [if_pos (by rfl)]
                      go_simp
                      exact hK.out _ _ ⟨_, _, _, _, _, _, _, _, _, _, _, _, _, _, _, _, _, rfl, hI.s12⟩
                    · have hx11 := hI.p11 (hd 11 (by decide))
                      subst hx11
                      have hx12 := hI.p12 (hd 12 (by decide))
                      subst hx12
                      have hx6 := hI.p6 (hd 6 (by decide))
                      subst hx6
                      rw [if_pos (by rfl)]
                      go_simp
                      exact hK.out _ _ ⟨_, _, _, _, _, _, _, _, _, _, _, _, _, _, _, _, _, rfl, hI.s13⟩
                    · have hx13 := hI.p13 (hd 13 (by decide))
                      subst hx13
                      have hx6 := hI.p6 (hd 6 (by decide))
                      subst hx6
                      rw [if_pos (by rfl)]
                      have hc2 := HS2.out _ hI.x
                      go_simp
                      exact hK.out _ _ ⟨_, _, _, _, _, _, _, _, _, _, _, _, _, _, _, _, _, rfl, hI.s14⟩
                    · have hx10 := hI.p10 (hd 10 (by decide))
                      subst hx10
                      have hx14 := hI.p14 (hd 14 (by decide))
                      subst hx14
                      have hx6 := hI.p6 (hd 6 (by decide))
                      subst hx6
                      rw [if_pos (by rfl)]
                      go_simp
                      exact hK.out _ _ ⟨_, _, _, _, _, _, _, _, _, _, _, _, _, _, _, _, _, rfl, hI.s15⟩
                    · have hx6 := hI.p6 (hd 6 (by decide))
                      subst hx6
                      have hx15 := hI.p15 (hd 15 (by decide))
                      subst hx15
                      rw [if_pos (by rfl)]
                      go_simp
                      exact hK.out _ _ ⟨_, _, _, _, _, _, _, _, _, _, _, _, _, _, _, _, _, rfl, hI.s16⟩
                  · refine CG.ends ?_; intro x61 x62 x63 x64 x65 x66 x67 x68 x69 x70 x71 x72 x73 x74 x75 x76 x77 L W hall hI
                    have hx0 := hI.p0 (hall 0 (by decide))
                    subst hx0
                    have hx1 := hI.p1 (hall 1 (by decide))
                    subst hx1
                    have hx2 := hI.p2 (hall 2 (by decide))
                    subst hx2
                    have hx3 := hI.p3 (hall 3 (by decide))
                    subst hx3
                    have hx4 := hI.p4 (hall 4 (by decide))
                    subst hx4
                    have hx5 := hI.p5 (hall 5 (by decide))
                    subst hx5
                    have hx6 := hI.p6 (hall 6 (by decide))
                    subst hx6
                    have hx7 := hI.p7 (hall 7 (by decide))
                    subst hx7
                    have hx8 := hI.p8 (hall 8 (by decide))
                    subst hx8
                    have hx9 := hI.p9 (hall 9 (by decide))
                    subst hx9
                    have hx10 := hI.p10 (hall 10 (by decide))
                    subst hx10
                    have hx11 := hI.p11 (hall 11 (by decide))
                    subst hx11
                    have hx12 := hI.p12 (hall 12 (by decide))
                    subst hx12
                    have hx13 := hI.p13 (hall 13 (by decide))
                    subst hx13
                    have hx14 := hI.p14 (hall 14 (by decide))
                    subst hx14
                    have hx15 := hI.p15 (hall 15 (by decide))
                    subst hx15
                    have hx16 := hI.p16 (hall 16 (by decide))
                    subst hx16
                    have hXe := hI.x
                    clear hI hall
                    try dsimp only
                    subst hXe
                    go_wp2
                    go_ret
                    exact ⟨true, rfl, HBF.out, fun h => (by cases h), fun h => absurd (by have h2 := h.2; rw [HXL.out] at h2; exact h2) HNO.out⟩
              · have qe := eq_any (sha y) SH hyl hsl false (by rw [decide_eq_false heq])
                have HN2 := HNX.out (fun h => absurd h heq)
                have HN3 : Hid _ := HN2
                clear heq HNX HN2
                generalize (sha y).map B8 = HC at *
                generalize SH.map B8 = XC at *
                go_wp2_with fail
                refine wp_region_inv (ICH wi hg i hc k tg LEN c8 HC XC _ _ _ _ _ _ _ _ _ _ _ _ _ _ _ _ _ _ _ _ _ _ _ _ _ _ _ _ _ _ _ _ _ _ _ _ _ _ _ _ _ _ _ _ _ _ _ _ _ _ _ _ _ _ _ _ _ _ _ _ _ _ _ _ _) (by kernel_rfl) (by kernel_rfl) ⟨_, _, _, _, _, _, _, _, _, _, _, _, _, _, _, _, _, rfl, ⟨rfl, fun k => (by cases k), fun k => (by cases k), fun k => (by cases k), fun k => (by cases k), fun k => (by cases k), fun k => (by cases k), fun k => (by cases k), fun k => (by cases k)⟩⟩ ?_ ?_
                · refine .cons ?_ (.cons ?_ (.cons ?_ (.cons ?_ (.cons ?_ (.cons ?_ (.cons ?_ (.cons ?_ (.cons ?_ (.cons ?_ (.cons ?_ (.cons ?_ (.cons ?_ (.cons ?_ (.cons ?_ (.cons ?_ (.cons ?_ .nil))))))))))))))))
                  all_goals (refine CH.step ?_; intro x61 x62 x63 x64 x65 x66 x67 x68 x69 x70 x71 x72 x73 x74 x75 x76 x77 L W hI hL hd K hK)
                  · rw [if_pos (by rfl)]
                    go_simp
                    exact hK.out _ _ ⟨_, _, _, _, _, _, _, _, _, _, _, _, _, _, _, _, _, rfl, hI.s0⟩
                  · rw [if_pos (by rfl)]
                    go_simp
                    exact hK.out _ _ ⟨_, _, _, _, _, _, _, _, _, _, _, _, _, _, _, _, _, rfl, hI.s1⟩
                  · have hx0 := hI.p0 (hd 0 (by decide))
                    subst hx0
                    have hx1 := hI.p1 (hd 1 (by decide))
                    subst hx1
                    rw [if_pos (by rfl)]
                    go_simp
                    exact hK.out _ _ ⟨_, _, _, _, _, _, _, _, _, _, _, _, _, _, _, _, _, rfl, hI.s2⟩
                  · have hx2 := hI.p2 (hd 2 (by decide))
                    subst hx2
                    refine step_load_rng rfl 32 _ rfl hg (k * 32) HC (HH1.out _ hI.x) rfl _ Try.underlying32 rfl (by rw [lh]; kernel_rfl) ?_
                    exact hK.out _ _ ⟨_, _, _, _, _, _, _, _, _, _, _, _, _, _, _, _, _, rfl, hI.s3⟩
                  · refine step_load_Row rfl 32 _ rfl X 32 XC (HX1.out _ hI.x) rfl _ Try.underlying32 rfl (by rw [lx]; kernel_rfl) ?_
                    exact hK.out _ _ ⟨_, _, _, _, _, _, _, _, _, _, _, _, _, _, _, _, _, rfl, hI.s4⟩
                  · have hx3 := hI.p3 (hd 3 (by decide))
                    subst hx3
                    have hx4 := hI.p4 (hd 4 (by decide))
                    subst hx4
                    rw [if_pos (by rfl)]
                    go_simp
                    exact hK.out _ _ ⟨_, _, _, _, _, _, _, _, _, _, _, _, _, _, _, _, _, rfl, hI.s5⟩
                  · have hx5 := hI.p5 (hd 5 (by decide))
                    subst hx5
                    rw [if_pos (by rfl)]
                    go_simp
                    exact hK.out _ _ ⟨_, _, _, _, _, _, _, _, _, _, _, _, _, _, _, _, _, rfl, hI.s6⟩
                  · have hx6 := hI.p6 (hd 6 (by decide))
                    subst hx6
                    rw [if_neg (by first | decide | exact Bool.false_ne_true)]
                    exact hK.out _ _ ⟨_, _, _, _, _, _, _, _, _, _, _, _, _, _, _, _, _, rfl, hI.s7⟩
                  · have hx6 := hI.p6 (hd 6 (by decide))
                    subst hx6
                    rw [if_neg (by first | decide | exact Bool.false_ne_true)]
                    exact hK.out _ _ ⟨_, _, _, _, _, _, _, _, _, _, _, _, _, _, _, _, _, rfl, hI.s8⟩
                  · have hx6 := hI.p6 (hd 6 (by decide))
                    subst hx6
                    rw [if_neg (by first | decide | exact Bool.false_ne_true)]
                    exact hK.out _ _ ⟨_, _, _, _, _, _, _, _, _, _, _, _, _, _, _, _, _, rfl, hI.s9⟩
                  · have hx6 := hI.p6 (hd 6 (by decide))
                    subst hx6
                    rw [if_neg (by first | decide | exact Bool.false_ne_true)]
                    exact hK.out _ _ ⟨_, _, _, _, _, _, _, _, _, _, _, _, _, _, _, _, _, rfl, hI.s10⟩
                  · have hx6 := hI.p6 (hd 6 (by decide))
                    subst hx6
                    rw [if_neg (by first | decide | exact Bool.false_ne_true)]
                    exact hK.out _ _ ⟨_, _, _, _, _, _, _, _, _, _, _, _, _, _, _, _, _, rfl, hI.s11⟩
                  · have hx6 := hI.p6 (hd 6 (by decide))
                    subst hx6
                    rw [if_neg (by first | decide | exact Bool.false_ne_true)]
                    exact hK.out _ _ ⟨_, _, _, _, _, _, _, _, _, _, _, _, _, _, _, _, _, rfl, hI.s12⟩
                  · have hx6 := hI.p6 (hd 6 (by decide))
                    subst hx6
                    rw [if_neg (by first | decide | exact Bool.false_ne_true)]
                    exact hK.out _ _ ⟨_, _, _, _, _, _, _, _, _, _, _, _, _, _, _, _, _, rfl, hI.s13⟩
                  · have hx6 := hI.p6 (hd 6 (by decide))
                    subst hx6
                    rw [if_neg (by first | decide | exact Bool.false_ne_true)]
                    exact hK.out _ _ ⟨_, _, _, _, _, _, _, _, _, _, _, _, _, _, _, _, _, rfl, hI.s14⟩
                  · have hx6 := hI.p6 (hd 6 (by decide))
                    subst hx6
                    rw [if_neg (by first | decide | exact Bool.false_ne_true)]
                    exact hK.out _ _ ⟨_, _, _, _, _, _, _, _, _, _, _, _, _, _, _, _, _, rfl, hI.s15⟩
                  · have hx6 := hI.p6 (hd 6 (by decide))
                    subst hx6
                    rw [if_pos (by rfl)]
                    go_simp
                    exact hK.out _ _ ⟨_, _, _, _, _, _, _, _, _, _, _, _, _, _, _, _, _, rfl, hI.s16⟩
                · refine CH.ends ?_; intro x61 x62 x63 x64 x65 x66 x67 x68 x69 x70 x71 x72 x73 x74 x75 x76 x77 L W hall hI
                  have hx0 := hI.p0 (hall 0 (by decide))
                  subst hx0
                  have hx1 := hI.p1 (hall 1 (by decide))
                  subst hx1
                  have hx2 := hI.p2 (hall 2 (by decide))
                  subst hx2
                  have hx3 := hI.p3 (hall 3 (by decide))
                  subst hx3
                  have hx4 := hI.p4 (hall 4 (by decide))
                  subst hx4
                  have hx5 := hI.p5 (hall 5 (by decide))
                  subst hx5
                  have hx6 := hI.p6 (hall 6 (by decide))
                  subst hx6
                  have hx16 := hI.p16 (hall 16 (by decide))
                  subst hx16
                  have hXe := hI.x
                  clear hI hall
                  try dsimp only
                  subst hXe
                  go_wp2
                  exact ⟨⟨k + 1, by omega, by go_num, HDW, HN3⟩, by simp [intOf]; omega⟩
            · obtain rfl : k = i := by omega
              have x1 : ¬ ((k : Nat) : Int) < (k : Int) := by omega
              have H6 := H5.out.dr HD.out
              have rX := r5.out.dr HD.out
              have ba : Hid (Below wi.heap.size wi (wi.alloc (.cells (SH.map B8).toArray 32))) := (Below.refl _ _).alloc (Nat.le_refl _) _
              have H7 : Hid (HS w.heap.size w (wi.alloc (.cells (SH.map B8).toArray 32)) (some ⟨tg, 0, none⟩) LEN c8 ALL k ho hc) := H6.keep ba.out
              have rB : Hid (Row (wi.alloc (.cells (SH.map B8).toArray 32)) wi.heap.size 32 (SH.map B8)) := Row.at wi _ _ _ _ rfl rfl
              have H1S : Hid (∀ u ∈ SH.map B8, u.oneCell' = true) := B8_one SH
              have hfold : List.foldl (fun (cs : Array Value) (x : Value × Nat) => cs.setIfInBounds x.2 x.1) #[.int .u8 0, .int .u8 0, .int .u8 0, .int .u8 0, .int .u8 0, .int .u8 0, .int .u8 0, .int .u8 0, .int .u8 0, .int .u8 0, .int .u8 0, .int .u8 0, .int .u8 0, .int .u8 0, .int .u8 0, .int .u8 0, .int .u8 0, .int .u8 0, .int .u8 0, .int .u8 0, .int .u8 0, .int .u8 0, .int .u8 0, .int .u8 0, .int .u8 0, .int .u8 0, .int .u8 0, .int .u8 0, .int .u8 0, .int .u8 0, .int .u8 0, .int .u8 0] (SH.map B8).zipIdx = (SH.map B8).toArray := fold_setv (SH.map B8) [] z32 (by rw [lx]; rfl)
              clear H6
              go_wp2_with (first | (refine wpList_load_Row rfl 32 (.tmp 16) rfl X 32 (SH.map B8) rX rfl _ Try.underlying32 rfl (by rw [lx]; kernel_rfl) ?_) | (at_builtin; refine wpList_append_where el_hash rfl (.tmp 78) (.tmp 80) rfl w.heap.size w ho k hc _ rfl H7.out.h.1 H7.out.h.2.1 H7.out.b wi.heap.size 0 1 1 (SH.map B8) rfl (by rw [lx]) (fun q u hu => by rw [Nat.zero_add]; exact rB.out.cell q u hu) (by omega) H1S.out (by unfold maxLen; omega) (by omega) ?_; intro ho2 hc2 w9 q1 q2 q3 q4 q5))
              have H9 : Hid (HS w.heap.size w w9 (some ⟨tg, 0, none⟩) LEN c8 ALL (k + 1) ho2 hc2) := H7.out.push HBI.out (by rw [HSH.out]; exact q1) q2 q3 q4 fun j y hj hy e => HJ.out j y hj hy (by rw [e, HSH.out])
              exact ⟨⟨k + 1, ho2, hc2, by omega, rfl, by go_num, H9⟩, by simp [intOf]; omega⟩
        · obtain rfl : i = LEN := by omega
          have y1 : ¬ ((i : Nat) : Int) < (i : Int) := by omega
          have HNC : Hid (NoClash (rowL xs xs.length ++ rowL ys ys.length)) := by
            show NoClash _
            rw [HXL.out]
            exact noclash_of fun a k x y h1 h2 h3 h4 => HH.out.c a k x y h1 (by rw [← HAL.out]; exact (List.getElem?_eq_some_iff.1 h2).1) h2 h3 h4
          have HB : Hid (Below w.heap.size w wr) := HH.out.b
          clear HH
          go_wp2
          go_ret
          exact ⟨false, rfl, HB.out, fun _ => ⟨HTG.out, HNC.out⟩, fun _ => rfl⟩
end Go.Proofs.Ythegfkcegmeklaa
