
import Derived.Test.YtpcgkjngpdplmaaGreatDoorN19Y
import Derived.Great.BuildSlice
import Derived.Deep.DeepAppendWide
/-! The code's model: lay, of new bytes. (Printed by tools/genn19.py.) -/
namespace Go.Proofs.YtpcgkjngpdplmaaGreatDoor
open Go.RowKit Go.Maps
set_option linter.unusedVariables false
set_option linter.unusedSimpArgs false

theorem el_stg : ElT 92 91 37 72 (.agg zSg.toArray) := ⟨Tryz.underlying92, by kernel_rfl, rfl, by omega⟩
set_option maxRecDepth 100000 in
theorem step_build_stg {ops : Array Oper} {o : Oper} {a : Act} {w : World} {K : Act → World → Prop} {Q : Exit → Act → World → Prop} {X : Prop} (hw : Region.wanted o (yielded ops a.tmps) = true) (x : Operand) (ho : o.op = .buildSlice 92 1 #[(0, x)])
    (cs : List Value) (hl : cs.length = 37) (hx : a.eval x = .agg cs.toArray) (h : K (a.put o.dst (.slice (some ⟨w.heap.size, 0, none⟩) 1 1)) (w.alloc (.cells cs.toArray 91))) : if Region.wanted o (yielded ops a.tmps) = true then Oper.wp Tryz.prog o a w K Q else X := by
  rw [if_pos hw]
  obtain ⟨i0, hi, hz0, hz1, hz2⟩ := info_parts el_stg.info
  refine wp_buildSlice 92 91 1 _ ho cs.toArray i0 _ Tryz.underlying92 hi hz0 (by rw [hz1]; omega) (by rw [hz1]; omega) ?_ h
  rw [hz1]
  have e : (#[(0, x)].map fun (i, y) => (i, a.eval y)).toList = (([Value.agg cs.toArray]).zipIdx 0).map fun x => (x.2, x.1) := by simp [hx]
  rw [e, Great.fill_whole (s := 37) (by decide) [Value.agg cs.toArray] _ (fun v hv => by rw [List.mem_singleton.1 hv]; simpa [Value.cells] using hl) (by simp)]
  congr 2
  simp [Value.cells]
theorem run_append_wide {T e size bytes : Nat} {z : Value} (E : ElT T e size bytes z) (N : Nat) (w : World) (ty : TypeId) (aoD : Option Addr) (nD capD : Nat) (vs : List Value) (hown : w.ownsRow N e size (.slice aoD nD capD) nD vs) (hN : N ≤ w.heap.size)
    (ad : Addr) (n cap : Nat) (news : List Value) (hn : news.length = n * size) (hnews : ∀ j u, news[j]? = some u → w.cell? (ad.add j) = some u) (h1 : ∀ u ∈ news, u.oneCell' = true) (hm : nD + n ≤ maxLen) (hl : ((nD + n) + (nD + n) / 4 + 192) * bytes ≤ 281474976710656) :
    ∃ ao' cap' w', (Builtin.append_ #[T, T] ty #[.slice aoD nD capD, .slice (some ad) n cap]).run Tryz.prog w = .ok (.slice ao' (nD + n) cap') w' ∧ w'.ownsRow N e size (.slice ao' (nD + n) cap') (nD + n) (vs ++ news) ∧ Below N w w' ∧ w.heap.size ≤ w'.heap.size ∧ (∀ k, k < w.heap.size → (∀ g, aoD = some ⟨g, 0, none⟩ → k ≠ g) → w'.heap[k]? = w.heap[k]?) := by
  obtain ⟨i0, hi, hz0, hz1, hz2⟩ := info_parts E.info
  obtain ⟨v', w', r1, r2, r3, _⟩ := run_append_own_wide (P := Tryz.prog) w N T ty e i0 z size bytes E.und hi hz0 hz1 hz2 E.zs E.pos _ nD vs hown ad n cap news hn hnews h1 hm hl hN
  have hform : ∃ ao' cap', v' = .slice ao' (nD + n) cap' := by
    rcases r2.2 with ⟨e1, e0⟩ | ⟨g, c, cur, e1, _⟩
    · exact ⟨none, 0, by rw [e1, e0]⟩
    · exact ⟨_, _, e1⟩
  obtain ⟨ao', cap', rfl⟩ := hform
  refine ⟨ao', cap', w', r1, r2, (Below.refl _ _).grown r3 hN (fun k hk => (hown.lt k hk).1), r3.size, fun k hk hne => r3.block k hk (fun e1 => ?_)⟩
  rcases hown.2 with ⟨e2, _⟩ | ⟨g, c, cur, e2, _⟩
  · rw [e2] at e1; simp [Value.ownBlock] at e1
  · injection e2 with e2
    rw [e2] at e1
    simp [Value.ownBlock] at e1
    exact hne g e2 e1
theorem step_append_stg {ops : Array Oper} {o : Oper} {a : Act} {w : World} {K : Act → World → Prop} {Q : Exit → Act → World → Prop} {X : Prop} (hw : Region.wanted o (yielded ops a.tmps) = true) (s y : Operand) (ho : o.op = .call { callee := .builtin .append, args := #[s, y], argTypes := #[92, 92] })
    (N so n cap G : Nat) (vs SC : List Value) (hs : a.eval s = .slice (some ⟨so, 0, none⟩) (n + 1) cap) (hy : a.eval y = .slice (some ⟨G, 0, none⟩) 1 1) (hown : w.ownsRow N 91 37 (.slice (some ⟨so, 0, none⟩) (n + 1) cap) (n + 1) vs) (hN : N ≤ w.heap.size) (hG : Row w G 91 SC) (hl : SC.length = 37) (h1 : ∀ v ∈ SC, v.oneCell' = true) (hn : n ≤ 2932031007402)
    (hK : ∀ so' cap' w', w'.ownsRow N 91 37 (.slice (some ⟨so', 0, none⟩) (n + 2) cap') (n + 2) (vs ++ SC) → Below N w w' → w.heap.size ≤ w'.heap.size → (∀ k, k < w.heap.size → k ≠ so → w'.heap[k]? = w.heap[k]?) → K (a.put o.dst (.slice (some ⟨so', 0, none⟩) (n + 2) cap')) w') : if Region.wanted o (yielded ops a.tmps) = true then Oper.wp Tryz.prog o a w K Q else X := by
  rw [if_pos hw]
  obtain ⟨ao', cap', w', hrun, h2, h3, h4, h5⟩ := run_append_wide el_stg N w o.type (some ⟨so, 0, none⟩) (n + 1) cap vs hown hN ⟨G, 0, none⟩ 1 1 SC (by rw [hl]) (fun j v hv => by rw [Addr.add_mid, Nat.zero_add]; exact hG.cell j v hv) h1 (by unfold maxLen; omega) (by omega)
  obtain ⟨so', rfl⟩ : ∃ so', ao' = some ⟨so', 0, none⟩ := by
    rcases h2.2 with ⟨_, e0⟩ | ⟨g, c, cur, e, _⟩
    · omega
    · injection e with e1 _ _
      exact ⟨g, e1⟩
  unfold Oper.wp execOp
  simp only [ho, resolve, invoke, builtin, Sem.run_bind, Sem.run_pure, Result.andThen_ok, List.map_toArray, List.map_cons, List.map_nil, hs, hy, hrun]
  exact hK so' cap' w' h2 h3 h4 (fun k hk hne => h5 k hk (fun g e => by injection e with e; injection e with e; rw [← e]; exact hne))
/-- While what was found is appended. -/
structure Y7 (N : Nat) (w : World) (FV SC : List Value) (mg rg nb so cap : Nat) (c : Cfg) (B2 : List (List By)) (n : Nat) (vs : List Value) (q9 q10 q13 : Bool) (x59 x60 : Value) (W : World) : Prop where
  ly : LyB (fun i => i = nb ∨ i = so ∨ i = mg) w W
  f : Row W w.heap.size 89 FV
  ms : MsAt W nb B2
  md : Row W mg 95 (mdC c rg (if q13 then x60 else .slice (some ⟨so, 0, none⟩) (n + 1) cap) nb)
  own : q10 = false → W.ownsRow N 91 37 (.slice (some ⟨so, 0, none⟩) (n + 1) cap) (n + 1) vs
  n59 : q9 = true → ∃ G, x59 = .slice (some ⟨G, 0, none⟩) 1 1 ∧ w.heap.size < G ∧ Row W G 91 SC
  n60 : q10 = true → ∃ so' cap', x60 = .slice (some ⟨so', 0, none⟩) (n + 2) cap' ∧ W.ownsRow N 91 37 (.slice (some ⟨so', 0, none⟩) (n + 2) cap') (n + 2) (vs ++ SC)
theorem owns_keep {w W : World} {N t k : Nat} {v : Value} {n : Nat} {vs : List Value} (h : w.ownsRow N t k v n vs) (hb : Below w.heap.size w W) : W.ownsRow N t k v n vs := by
  refine ⟨h.1, ?_⟩
  rcases h.2 with h1 | ⟨g, c, cur, e, hg, hh, hr⟩
  · exact .inl h1
  · exact .inr ⟨g, c, cur, e, hg, (hb.block g (Array.getElem?_eq_some_iff.1 hh).1).trans hh, hr⟩
theorem owns_but {w W : World} {N k g t' : Nat} {cs : List Value} {v : Value} {n : Nat} {vs : List Value} (h : w.ownsRow N 91 k v n vs) (hs : SameBut g w W) (hr : Row w g t' cs) (ht : t' ≠ 91) : W.ownsRow N 91 k v n vs := by
  refine ⟨h.1, ?_⟩
  rcases h.2 with h1 | ⟨g2, c, cur, e, hg, hh, hr2⟩
  · exact .inl h1
  · refine .inr ⟨g2, c, cur, e, hg, (hs.block g2 (fun e => ?_)).trans hh, hr2⟩
    subst e
    have h2 : w.heap[g2]? = _ := hr
    rw [hh] at h2
    injection h2 with h2
    injection h2 with _ h2
    exact ht h2.symm
section
variable {N : Nat} {w W W2 : World} {FV SC : List Value} {mg rg nb so cap : Nat} {c : Cfg} {B2 : List (List By)} {n : Nat} {vs : List Value} {q9 q10 q13 : Bool} {x59 x60 : Value}
theorem Y7.keep (h : Y7 N w FV SC mg rg nb so cap c B2 n vs q9 q10 q13 x59 x60 W) (hb : Below W.heap.size W W2) : Y7 N w FV SC mg rg nb so cap c B2 n vs q9 q10 q13 x59 x60 W2 :=
  ⟨h.ly.keep hb, h.f.below hb h.f.lt, h.ms.of_block (hb.block nb h.ms.lt), h.md.below hb h.md.lt, fun e => owns_keep (h.own e) hb, fun e => let ⟨G, a, b, d⟩ := h.n59 e; ⟨G, a, b, d.below hb d.lt⟩, fun e => let ⟨s, k, a, b⟩ := h.n60 e; ⟨s, k, a, owns_keep b hb⟩⟩
theorem Y7.drew (h : Y7 N w FV SC mg rg nb so cap c B2 n vs q9 q10 q13 x59 x60 W) : Y7 N w FV SC mg rg nb so cap c B2 n vs q9 q10 q13 x59 x60 W.drew := h.keep ⟨rfl, rfl, rfl, Nat.le_refl _, fun _ _ => rfl⟩
theorem Y7.build (h : Y7 N w FV SC mg rg nb so cap c B2 n vs q9 q10 q13 x59 x60 W) (e10 : q10 = false) : Y7 N w FV SC mg rg nb so cap c B2 n vs true q10 q13 (.slice (some ⟨W.heap.size, 0, none⟩) 1 1) x60 (W.alloc (.cells SC.toArray 91)) :=
  have hb : Below W.heap.size W (W.alloc (.cells SC.toArray 91)) := (Below.refl _ _).alloc (Nat.le_refl _) _
  have k := h.keep hb
  ⟨k.ly, k.f, k.ms, k.md, k.own, fun _ => ⟨_, rfl, h.f.lt, Row.at _ _ _ _ _ rfl rfl⟩, k.n60⟩
theorem Y7.push (h : Y7 N w FV SC mg rg nb so cap c B2 n vs q9 q10 q13 x59 x60 W) (e13 : q13 = false) {so' cap' : Nat} (hz : W.heap.size ≤ W2.heap.size) (hbl : Below N W W2) (hb : ∀ k, k < W.heap.size → k ≠ so → W2.heap[k]? = W.heap[k]?) (hmn : mg ≠ so) (hns : nb ≠ so) (hfs : w.heap.size ≠ so) (hown : W2.ownsRow N 91 37 (.slice (some ⟨so', 0, none⟩) (n + 2) cap') (n + 2) (vs ++ SC)) (hG : ∀ G, x59 = .slice (some ⟨G, 0, none⟩) 1 1 → G ≠ so) :
    Y7 N w FV SC mg rg nb so cap c B2 n vs q9 true q13 x59 (.slice (some ⟨so', 0, none⟩) (n + 2) cap') W2 := by
  subst e13
  refine ⟨⟨hbl.os.trans h.ly.os, hbl.tape.trans h.ly.tape, hbl.output.trans h.ly.output, Nat.le_trans h.ly.size hz, fun i hi he => (hb i (Nat.lt_of_lt_of_le hi h.ly.size) (fun e => he (.inr (.inl e)))).trans (h.ly.block i hi he)⟩, (hb _ h.f.lt hfs).trans h.f, h.ms.of_block (hb nb h.ms.lt hns), (hb mg h.md.lt hmn).trans h.md, (fun e => by cases e), fun e => ?_, fun _ => ⟨so', cap', rfl, hown⟩⟩
  obtain ⟨G, a, b, d⟩ := h.n59 e
  exact ⟨G, a, b, (hb G d.lt (hG G a)).trans d⟩
theorem Y7.store (h : Y7 N w FV SC mg rg nb so cap c B2 n vs q9 q10 q13 x59 x60 W) (e10 : q10 = true) (e13 : q13 = false) (hw : mg < w.heap.size) (hs : SameBut mg W W2) (hr : Row W2 mg 95 (mdC c rg x60 nb)) : Y7 N w FV SC mg rg nb so cap c B2 n vs q9 q10 true x59 x60 W2 := by
  subst e13; subst e10
  refine ⟨h.ly.but hs (fun _ => .inr (.inr rfl)), h.f.but hs (by omega), h.ms.of_block (hs.block nb (fun e => h.ms.notRow h.md e.symm)), hr, (fun e => by cases e), fun e => ?_, fun e => ?_⟩
  · obtain ⟨G, a, b, d⟩ := h.n59 e
    exact ⟨G, a, b, d.but hs (by omega)⟩
  · obtain ⟨s, k, a, b⟩ := h.n60 e
    exact ⟨s, k, a, owns_but b hs h.md (by decide)⟩
end
structure LY3N (W1 : World) (w : World) (FV : List Value) (mg nb : Nat) (bo : Option Addr) (bl bc : Nat) (SB : ByteArray) (j : Nat) (L : Nat → Bool) (x27 x28 x29 x30 x31 x32 x33 x26 x34 x35 x7 x8 : Value) (W : World) : Prop where
  x : YW w FV W
  p0 : L 0 = true → x27 = .pointer (some ⟨mg, 0, none⟩)
  p1 : L 1 = true → x28 = .pointer (some ⟨mg, 0, none⟩)
  p2 : L 2 = true → x29 = .pointer (some ⟨mg, 11, none⟩)
  p3 : L 3 = true → x30 = .map (some nb)
  p4 : L 4 = true → x31 = .slice bo bl bc
  p5 : L 5 = true → x32 = .string SB
  p6 : L 6 = true → x33 = .tuple #[.int .i64 0, .bool false]
  p7 : L 7 = true → x26 = .tuple #[.int .i64 0, .bool false]
  p8 : L 8 = true → x34 = .int .i64 0
  p9 : L 9 = true → x35 = .bool false
  p10 : L 10 = true → x7 = .int .i64 0
  p11 : L 11 = true → x8 = .bool false
section
variable {W1 : World} {w : World} {FV : List Value} {mg nb : Nat} {bo : Option Addr} {bl bc : Nat} {SB : ByteArray} {j : Nat} {L : Nat → Bool} {x27 x28 x29 x30 x31 x32 x33 x26 x34 x35 x7 x8 : Value} {W W2 : World}
theorem LY3N.s0 (h : LY3N W1 w FV mg nb bo bl bc SB j L x27 x28 x29 x30 x31 x32 x33 x26 x34 x35 x7 x8 W) : LY3N W1 w FV mg nb bo bl bc SB j (upd L 0) (.pointer (some ⟨mg, 0, none⟩)) x28 x29 x30 x31 x32 x33 x26 x34 x35 x7 x8 W :=
  ⟨h.x, fun _ => rfl, h.p1, h.p2, h.p3, h.p4, h.p5, h.p6, h.p7, h.p8, h.p9, h.p10, h.p11⟩
theorem LY3N.s1 (h : LY3N W1 w FV mg nb bo bl bc SB j L x27 x28 x29 x30 x31 x32 x33 x26 x34 x35 x7 x8 W) : LY3N W1 w FV mg nb bo bl bc SB j (upd L 1) x27 (.pointer (some ⟨mg, 0, none⟩)) x29 x30 x31 x32 x33 x26 x34 x35 x7 x8 W :=
  ⟨h.x, h.p0, fun _ => rfl, h.p2, h.p3, h.p4, h.p5, h.p6, h.p7, h.p8, h.p9, h.p10, h.p11⟩
theorem LY3N.s2 (h : LY3N W1 w FV mg nb bo bl bc SB j L x27 x28 x29 x30 x31 x32 x33 x26 x34 x35 x7 x8 W) : LY3N W1 w FV mg nb bo bl bc SB j (upd L 2) x27 x28 (.pointer (some ⟨mg, 11, none⟩)) x30 x31 x32 x33 x26 x34 x35 x7 x8 W :=
  ⟨h.x, h.p0, h.p1, fun _ => rfl, h.p3, h.p4, h.p5, h.p6, h.p7, h.p8, h.p9, h.p10, h.p11⟩
theorem LY3N.s3 (h : LY3N W1 w FV mg nb bo bl bc SB j L x27 x28 x29 x30 x31 x32 x33 x26 x34 x35 x7 x8 W) : LY3N W1 w FV mg nb bo bl bc SB j (upd L 3) x27 x28 x29 (.map (some nb)) x31 x32 x33 x26 x34 x35 x7 x8 W :=
  ⟨h.x, h.p0, h.p1, h.p2, fun _ => rfl, h.p4, h.p5, h.p6, h.p7, h.p8, h.p9, h.p10, h.p11⟩
theorem LY3N.s4 (h : LY3N W1 w FV mg nb bo bl bc SB j L x27 x28 x29 x30 x31 x32 x33 x26 x34 x35 x7 x8 W) : LY3N W1 w FV mg nb bo bl bc SB j (upd L 4) x27 x28 x29 x30 (.slice bo bl bc) x32 x33 x26 x34 x35 x7 x8 W :=
  ⟨h.x, h.p0, h.p1, h.p2, h.p3, fun _ => rfl, h.p5, h.p6, h.p7, h.p8, h.p9, h.p10, h.p11⟩
theorem LY3N.s5 (h : LY3N W1 w FV mg nb bo bl bc SB j L x27 x28 x29 x30 x31 x32 x33 x26 x34 x35 x7 x8 W) : LY3N W1 w FV mg nb bo bl bc SB j (upd L 5) x27 x28 x29 x30 x31 (.string SB) x33 x26 x34 x35 x7 x8 W :=
  ⟨h.x, h.p0, h.p1, h.p2, h.p3, h.p4, fun _ => rfl, h.p6, h.p7, h.p8, h.p9, h.p10, h.p11⟩
theorem LY3N.s6 (h : LY3N W1 w FV mg nb bo bl bc SB j L x27 x28 x29 x30 x31 x32 x33 x26 x34 x35 x7 x8 W) : LY3N W1 w FV mg nb bo bl bc SB j (upd L 6) x27 x28 x29 x30 x31 x32 (.tuple #[.int .i64 0, .bool false]) x26 x34 x35 x7 x8 W :=
  ⟨h.x, h.p0, h.p1, h.p2, h.p3, h.p4, h.p5, fun _ => rfl, h.p7, h.p8, h.p9, h.p10, h.p11⟩
theorem LY3N.s7 (h : LY3N W1 w FV mg nb bo bl bc SB j L x27 x28 x29 x30 x31 x32 x33 x26 x34 x35 x7 x8 W) : LY3N W1 w FV mg nb bo bl bc SB j (upd L 7) x27 x28 x29 x30 x31 x32 x33 (.tuple #[.int .i64 0, .bool false]) x34 x35 x7 x8 W :=
  ⟨h.x, h.p0, h.p1, h.p2, h.p3, h.p4, h.p5, h.p6, fun _ => rfl, h.p8, h.p9, h.p10, h.p11⟩
theorem LY3N.s8 (h : LY3N W1 w FV mg nb bo bl bc SB j L x27 x28 x29 x30 x31 x32 x33 x26 x34 x35 x7 x8 W) : LY3N W1 w FV mg nb bo bl bc SB j (upd L 8) x27 x28 x29 x30 x31 x32 x33 x26 (.int .i64 0) x35 x7 x8 W :=
  ⟨h.x, h.p0, h.p1, h.p2, h.p3, h.p4, h.p5, h.p6, h.p7, fun _ => rfl, h.p9, h.p10, h.p11⟩
theorem LY3N.s9 (h : LY3N W1 w FV mg nb bo bl bc SB j L x27 x28 x29 x30 x31 x32 x33 x26 x34 x35 x7 x8 W) : LY3N W1 w FV mg nb bo bl bc SB j (upd L 9) x27 x28 x29 x30 x31 x32 x33 x26 x34 (.bool false) x7 x8 W :=
  ⟨h.x, h.p0, h.p1, h.p2, h.p3, h.p4, h.p5, h.p6, h.p7, h.p8, fun _ => rfl, h.p10, h.p11⟩
theorem LY3N.s10 (h : LY3N W1 w FV mg nb bo bl bc SB j L x27 x28 x29 x30 x31 x32 x33 x26 x34 x35 x7 x8 W) : LY3N W1 w FV mg nb bo bl bc SB j (upd L 10) x27 x28 x29 x30 x31 x32 x33 x26 x34 x35 (.int .i64 0) x8 W :=
  ⟨h.x, h.p0, h.p1, h.p2, h.p3, h.p4, h.p5, h.p6, h.p7, h.p8, h.p9, fun _ => rfl, h.p11⟩
theorem LY3N.s11 (h : LY3N W1 w FV mg nb bo bl bc SB j L x27 x28 x29 x30 x31 x32 x33 x26 x34 x35 x7 x8 W) : LY3N W1 w FV mg nb bo bl bc SB j (upd L 11) x27 x28 x29 x30 x31 x32 x33 x26 x34 x35 x7 (.bool false) W :=
  ⟨h.x, h.p0, h.p1, h.p2, h.p3, h.p4, h.p5, h.p6, h.p7, h.p8, h.p9, h.p10, fun _ => rfl⟩
end
@[reducible] def ILY3N (W1 : World) (w : World) (FV : List Value) (mg nb : Nat) (bo : Option Addr) (bl bc : Nat) (SB : ByteArray) (j : Nat) (y0 y1 y2 y3 y4 y5 y6 y9 y10 y11 y12 y13 y14 y15 y16 y17 y18 y19 y20 y21 y22 y23 y24 y25 y36 y37 y38 y39 y40 y41 y42 y43 y44 y45 y46 y47 y48 y49 y50 y51 y52 y53 y54 y55 y56 y57 y58 y59 y60 y61 y62 y63 : Value) : (Nat → Bool) → Act → World → Prop := fun L a W => ∃ x27 x28 x29 x30 x31 x32 x33 x26 x34 x35 x7 x8, a = ⟨#[y0, y1, y2, y3, y4, y5, y6, x7, x8, y9, y10, y11, y12, y13, y14, y15, y16, y17, y18, y19, y20, y21, y22, y23, y24, y25, x26, x27, x28, x29, x30, x31, x32, x33, x34, x35, y36, y37, y38, y39, y40, y41, y42, y43, y44, y45, y46, y47, y48, y49, y50, y51, y52, y53, y54, y55, y56, y57, y58, y59, y60, y61, y62, y63], []⟩ ∧ LY3N W1 w FV mg nb bo bl bc SB j L x27 x28 x29 x30 x31 x32 x33 x26 x34 x35 x7 x8 W
theorem LY3N.step {W1 : World} {w : World} {FV : List Value} {mg nb : Nat} {bo : Option Addr} {bl bc : Nat} {SB : ByteArray} {j : Nat} {y0 y1 y2 y3 y4 y5 y6 y9 y10 y11 y12 y13 y14 y15 y16 y17 y18 y19 y20 y21 y22 y23 y24 y25 y36 y37 y38 y39 y40 y41 y42 y43 y44 y45 y46 y47 y48 y49 y50 y51 y52 y53 y54 y55 y56 y57 y58 y59 y60 y61 y62 y63 : Value} {P : Program} {ops : Array Oper} {Q : Exit → Act → World → Prop} {i : Nat} {o : Oper} (hq : ∀ x27 x28 x29 x30 x31 x32 x33 x26 x34 x35 x7 x8 (L : Nat → Bool) (W : World), LY3N W1 w FV mg nb bo bl bc SB j L x27 x28 x29 x30 x31 x32 x33 x26 x34 x35 x7 x8 W → L i = false → (∀ j ∈ onesOf o, L j = true) → ∀ K : Act → World → Prop, Shut (∀ a' w', ILY3N W1 w FV mg nb bo bl bc SB j y0 y1 y2 y3 y4 y5 y6 y9 y10 y11 y12 y13 y14 y15 y16 y17 y18 y19 y20 y21 y22 y23 y24 y25 y36 y37 y38 y39 y40 y41 y42 y43 y44 y45 y46 y47 y48 y49 y50 y51 y52 y53 y54 y55 y56 y57 y58 y59 y60 y61 y62 y63 (upd L i) a' w' → K a' w') → if Region.wanted o (yielded ops (⟨#[y0, y1, y2, y3, y4, y5, y6, x7, x8, y9, y10, y11, y12, y13, y14, y15, y16, y17, y18, y19, y20, y21, y22, y23, y24, y25, x26, x27, x28, x29, x30, x31, x32, x33, x34, x35, y36, y37, y38, y39, y40, y41, y42, y43, y44, y45, y46, y47, y48, y49, y50, y51, y52, y53, y54, y55, y56, y57, y58, y59, y60, y61, y62, y63], []⟩ : Act).tmps) = true then Oper.wp P o ⟨#[y0, y1, y2, y3, y4, y5, y6, x7, x8, y9, y10, y11, y12, y13, y14, y15, y16, y17, y18, y19, y20, y21, y22, y23, y24, y25, x26, x27, x28, x29, x30, x31, x32, x33, x34, x35, y36, y37, y38, y39, y40, y41, y42, y43, y44, y45, y46, y47, y48, y49, y50, y51, y52, y53, y54, y55, y56, y57, y58, y59, y60, y61, y62, y63], []⟩ W K Q else K ((⟨#[y0, y1, y2, y3, y4, y5, y6, x7, x8, y9, y10, y11, y12, y13, y14, y15, y16, y17, y18, y19, y20, y21, y22, y23, y24, y25, x26, x27, x28, x29, x30, x31, x32, x33, x34, x35, y36, y37, y38, y39, y40, y41, y42, y43, y44, y45, y46, y47, y48, y49, y50, y51, y52, y53, y54, y55, y56, y57, y58, y59, y60, y61, y62, y63], []⟩ : Act).put o.dst undef) W) : StepI P ops (ILY3N W1 w FV mg nb bo bl bc SB j y0 y1 y2 y3 y4 y5 y6 y9 y10 y11 y12 y13 y14 y15 y16 y17 y18 y19 y20 y21 y22 y23 y24 y25 y36 y37 y38 y39 y40 y41 y42 y43 y44 y45 y46 y47 y48 y49 y50 y51 y52 y53 y54 y55 y56 y57 y58 y59 y60 y61 y62 y63) Q i o := by
  rintro L a W ⟨x27, x28, x29, x30, x31, x32, x33, x26, x34, x35, x7, x8, rfl, h⟩
  exact hq _ _ _ _ _ _ _ _ _ _ _ _ _ _ h
theorem LY3N.ends {W1 : World} {w : World} {FV : List Value} {mg nb : Nat} {bo : Option Addr} {bl bc : Nat} {SB : ByteArray} {j : Nat} {y0 y1 y2 y3 y4 y5 y6 y9 y10 y11 y12 y13 y14 y15 y16 y17 y18 y19 y20 y21 y22 y23 y24 y25 y36 y37 y38 y39 y40 y41 y42 y43 y44 y45 y46 y47 y48 y49 y50 y51 y52 y53 y54 y55 y56 y57 y58 y59 y60 y61 y62 y63 : Value} {mm_ : Nat} {Q : Exit → Act → World → Prop} (hq : ∀ x27 x28 x29 x30 x31 x32 x33 x26 x34 x35 x7 x8 (L : Nat → Bool) (W : World), (∀ j, j < mm_ → L j = true) → LY3N W1 w FV mg nb bo bl bc SB j L x27 x28 x29 x30 x31 x32 x33 x26 x34 x35 x7 x8 W → Q .normal ⟨#[y0, y1, y2, y3, y4, y5, y6, x7, x8, y9, y10, y11, y12, y13, y14, y15, y16, y17, y18, y19, y20, y21, y22, y23, y24, y25, x26, x27, x28, x29, x30, x31, x32, x33, x34, x35, y36, y37, y38, y39, y40, y41, y42, y43, y44, y45, y46, y47, y48, y49, y50, y51, y52, y53, y54, y55, y56, y57, y58, y59, y60, y61, y62, y63], []⟩ W) : ∀ L a' w', (∀ j, j < mm_ → L j = true) → ILY3N W1 w FV mg nb bo bl bc SB j y0 y1 y2 y3 y4 y5 y6 y9 y10 y11 y12 y13 y14 y15 y16 y17 y18 y19 y20 y21 y22 y23 y24 y25 y36 y37 y38 y39 y40 y41 y42 y43 y44 y45 y46 y47 y48 y49 y50 y51 y52 y53 y54 y55 y56 y57 y58 y59 y60 y61 y62 y63 L a' w' → Q .normal a' w' := by
  rintro L a W hall ⟨x27, x28, x29, x30, x31, x32, x33, x26, x34, x35, x7, x8, rfl, h⟩
  exact hq _ _ _ _ _ _ _ _ _ _ _ _ _ _ hall h
structure LY6 (W1 : World) (w : World) (FV : List Value) (mg nb : Nat) (B : List (List By)) (bb : List By) (bo : Option Addr) (bl bc : Nat) (SB : ByteArray) (L : Nat → Bool) (x43 x44 x45 x46 x47 x48 x49 : Value) (W : World) : Prop where
  x : Y6 w FV nb B bb (L 7) W
  p0 : L 0 = true → x43 = .pointer (some ⟨mg, 0, none⟩)
  p1 : L 1 = true → x44 = .pointer (some ⟨mg, 0, none⟩)
  p2 : L 2 = true → x45 = .pointer (some ⟨mg, 11, none⟩)
  p3 : L 3 = true → x46 = .map (some nb)
  p4 : L 4 = true → x47 = .slice bo bl bc
  p5 : L 5 = true → x48 = .string SB
  p6 : L 6 = true → x49 = .int .i64 ((B.length : Int) + 1)
section
variable {W1 : World} {w : World} {FV : List Value} {mg nb : Nat} {B : List (List By)} {bb : List By} {bo : Option Addr} {bl bc : Nat} {SB : ByteArray} {L : Nat → Bool} {x43 x44 x45 x46 x47 x48 x49 : Value} {W W2 : World}
theorem LY6.s0 (h : LY6 W1 w FV mg nb B bb bo bl bc SB L x43 x44 x45 x46 x47 x48 x49 W) : LY6 W1 w FV mg nb B bb bo bl bc SB (upd L 0) (.pointer (some ⟨mg, 0, none⟩)) x44 x45 x46 x47 x48 x49 W :=
  ⟨h.x, fun _ => rfl, h.p1, h.p2, h.p3, h.p4, h.p5, h.p6⟩
theorem LY6.s1 (h : LY6 W1 w FV mg nb B bb bo bl bc SB L x43 x44 x45 x46 x47 x48 x49 W) : LY6 W1 w FV mg nb B bb bo bl bc SB (upd L 1) x43 (.pointer (some ⟨mg, 0, none⟩)) x45 x46 x47 x48 x49 W :=
  ⟨h.x, h.p0, fun _ => rfl, h.p2, h.p3, h.p4, h.p5, h.p6⟩
theorem LY6.s2 (h : LY6 W1 w FV mg nb B bb bo bl bc SB L x43 x44 x45 x46 x47 x48 x49 W) : LY6 W1 w FV mg nb B bb bo bl bc SB (upd L 2) x43 x44 (.pointer (some ⟨mg, 11, none⟩)) x46 x47 x48 x49 W :=
  ⟨h.x, h.p0, h.p1, fun _ => rfl, h.p3, h.p4, h.p5, h.p6⟩
theorem LY6.s3 (h : LY6 W1 w FV mg nb B bb bo bl bc SB L x43 x44 x45 x46 x47 x48 x49 W) : LY6 W1 w FV mg nb B bb bo bl bc SB (upd L 3) x43 x44 x45 (.map (some nb)) x47 x48 x49 W :=
  ⟨h.x, h.p0, h.p1, h.p2, fun _ => rfl, h.p4, h.p5, h.p6⟩
theorem LY6.s4 (h : LY6 W1 w FV mg nb B bb bo bl bc SB L x43 x44 x45 x46 x47 x48 x49 W) : LY6 W1 w FV mg nb B bb bo bl bc SB (upd L 4) x43 x44 x45 x46 (.slice bo bl bc) x48 x49 W :=
  ⟨h.x, h.p0, h.p1, h.p2, h.p3, fun _ => rfl, h.p5, h.p6⟩
theorem LY6.s5 (h : LY6 W1 w FV mg nb B bb bo bl bc SB L x43 x44 x45 x46 x47 x48 x49 W) : LY6 W1 w FV mg nb B bb bo bl bc SB (upd L 5) x43 x44 x45 x46 x47 (.string SB) x49 W :=
  ⟨h.x, h.p0, h.p1, h.p2, h.p3, h.p4, fun _ => rfl, h.p6⟩
theorem LY6.s6 (h : LY6 W1 w FV mg nb B bb bo bl bc SB L x43 x44 x45 x46 x47 x48 x49 W) : LY6 W1 w FV mg nb B bb bo bl bc SB (upd L 6) x43 x44 x45 x46 x47 x48 (.int .i64 ((B.length : Int) + 1)) W :=
  ⟨h.x, h.p0, h.p1, h.p2, h.p3, h.p4, h.p5, fun _ => rfl⟩
theorem LY6.s7 (h : LY6 W1 w FV mg nb B bb bo bl bc SB L x43 x44 x45 x46 x47 x48 x49 W) (hX : Y6 w FV nb B bb ((upd L 7) 7) W2) : LY6 W1 w FV mg nb B bb bo bl bc SB (upd L 7) x43 x44 x45 x46 x47 x48 x49 W2 :=
  ⟨hX, h.p0, h.p1, h.p2, h.p3, h.p4, h.p5, h.p6⟩
end
@[reducible] def ILY6 (W1 : World) (w : World) (FV : List Value) (mg nb : Nat) (B : List (List By)) (bb : List By) (bo : Option Addr) (bl bc : Nat) (SB : ByteArray) (y0 y1 y2 y3 y4 y5 y6 y7 y8 y9 y10 y11 y12 y13 y14 y15 y16 y17 y18 y19 y20 y21 y22 y23 y24 y25 y26 y27 y28 y29 y30 y31 y32 y33 y34 y35 y36 y37 y38 y39 y40 y41 y42 y50 y51 y52 y53 y54 y55 y56 y57 y58 y59 y60 y61 y62 y63 : Value) : (Nat → Bool) → Act → World → Prop := fun L a W => ∃ x43 x44 x45 x46 x47 x48 x49, a = ⟨#[y0, y1, y2, y3, y4, y5, y6, y7, y8, y9, y10, y11, y12, y13, y14, y15, y16, y17, y18, y19, y20, y21, y22, y23, y24, y25, y26, y27, y28, y29, y30, y31, y32, y33, y34, y35, y36, y37, y38, y39, y40, y41, y42, x43, x44, x45, x46, x47, x48, x49, y50, y51, y52, y53, y54, y55, y56, y57, y58, y59, y60, y61, y62, y63], []⟩ ∧ LY6 W1 w FV mg nb B bb bo bl bc SB L x43 x44 x45 x46 x47 x48 x49 W
theorem LY6.step {W1 : World} {w : World} {FV : List Value} {mg nb : Nat} {B : List (List By)} {bb : List By} {bo : Option Addr} {bl bc : Nat} {SB : ByteArray} {y0 y1 y2 y3 y4 y5 y6 y7 y8 y9 y10 y11 y12 y13 y14 y15 y16 y17 y18 y19 y20 y21 y22 y23 y24 y25 y26 y27 y28 y29 y30 y31 y32 y33 y34 y35 y36 y37 y38 y39 y40 y41 y42 y50 y51 y52 y53 y54 y55 y56 y57 y58 y59 y60 y61 y62 y63 : Value} {P : Program} {ops : Array Oper} {Q : Exit → Act → World → Prop} {i : Nat} {o : Oper} (hq : ∀ x43 x44 x45 x46 x47 x48 x49 (L : Nat → Bool) (W : World), LY6 W1 w FV mg nb B bb bo bl bc SB L x43 x44 x45 x46 x47 x48 x49 W → L i = false → (∀ j ∈ onesOf o, L j = true) → ∀ K : Act → World → Prop, Shut (∀ a' w', ILY6 W1 w FV mg nb B bb bo bl bc SB y0 y1 y2 y3 y4 y5 y6 y7 y8 y9 y10 y11 y12 y13 y14 y15 y16 y17 y18 y19 y20 y21 y22 y23 y24 y25 y26 y27 y28 y29 y30 y31 y32 y33 y34 y35 y36 y37 y38 y39 y40 y41 y42 y50 y51 y52 y53 y54 y55 y56 y57 y58 y59 y60 y61 y62 y63 (upd L i) a' w' → K a' w') → if Region.wanted o (yielded ops (⟨#[y0, y1, y2, y3, y4, y5, y6, y7, y8, y9, y10, y11, y12, y13, y14, y15, y16, y17, y18, y19, y20, y21, y22, y23, y24, y25, y26, y27, y28, y29, y30, y31, y32, y33, y34, y35, y36, y37, y38, y39, y40, y41, y42, x43, x44, x45, x46, x47, x48, x49, y50, y51, y52, y53, y54, y55, y56, y57, y58, y59, y60, y61, y62, y63], []⟩ : Act).tmps) = true then Oper.wp P o ⟨#[y0, y1, y2, y3, y4, y5, y6, y7, y8, y9, y10, y11, y12, y13, y14, y15, y16, y17, y18, y19, y20, y21, y22, y23, y24, y25, y26, y27, y28, y29, y30, y31, y32, y33, y34, y35, y36, y37, y38, y39, y40, y41, y42, x43, x44, x45, x46, x47, x48, x49, y50, y51, y52, y53, y54, y55, y56, y57, y58, y59, y60, y61, y62, y63], []⟩ W K Q else K ((⟨#[y0, y1, y2, y3, y4, y5, y6, y7, y8, y9, y10, y11, y12, y13, y14, y15, y16, y17, y18, y19, y20, y21, y22, y23, y24, y25, y26, y27, y28, y29, y30, y31, y32, y33, y34, y35, y36, y37, y38, y39, y40, y41, y42, x43, x44, x45, x46, x47, x48, x49, y50, y51, y52, y53, y54, y55, y56, y57, y58, y59, y60, y61, y62, y63], []⟩ : Act).put o.dst undef) W) : StepI P ops (ILY6 W1 w FV mg nb B bb bo bl bc SB y0 y1 y2 y3 y4 y5 y6 y7 y8 y9 y10 y11 y12 y13 y14 y15 y16 y17 y18 y19 y20 y21 y22 y23 y24 y25 y26 y27 y28 y29 y30 y31 y32 y33 y34 y35 y36 y37 y38 y39 y40 y41 y42 y50 y51 y52 y53 y54 y55 y56 y57 y58 y59 y60 y61 y62 y63) Q i o := by
  rintro L a W ⟨x43, x44, x45, x46, x47, x48, x49, rfl, h⟩
  exact hq _ _ _ _ _ _ _ _ _ h
theorem LY6.ends {W1 : World} {w : World} {FV : List Value} {mg nb : Nat} {B : List (List By)} {bb : List By} {bo : Option Addr} {bl bc : Nat} {SB : ByteArray} {y0 y1 y2 y3 y4 y5 y6 y7 y8 y9 y10 y11 y12 y13 y14 y15 y16 y17 y18 y19 y20 y21 y22 y23 y24 y25 y26 y27 y28 y29 y30 y31 y32 y33 y34 y35 y36 y37 y38 y39 y40 y41 y42 y50 y51 y52 y53 y54 y55 y56 y57 y58 y59 y60 y61 y62 y63 : Value} {mm_ : Nat} {Q : Exit → Act → World → Prop} (hq : ∀ x43 x44 x45 x46 x47 x48 x49 (L : Nat → Bool) (W : World), (∀ j, j < mm_ → L j = true) → LY6 W1 w FV mg nb B bb bo bl bc SB L x43 x44 x45 x46 x47 x48 x49 W → Q .normal ⟨#[y0, y1, y2, y3, y4, y5, y6, y7, y8, y9, y10, y11, y12, y13, y14, y15, y16, y17, y18, y19, y20, y21, y22, y23, y24, y25, y26, y27, y28, y29, y30, y31, y32, y33, y34, y35, y36, y37, y38, y39, y40, y41, y42, x43, x44, x45, x46, x47, x48, x49, y50, y51, y52, y53, y54, y55, y56, y57, y58, y59, y60, y61, y62, y63], []⟩ W) : ∀ L a' w', (∀ j, j < mm_ → L j = true) → ILY6 W1 w FV mg nb B bb bo bl bc SB y0 y1 y2 y3 y4 y5 y6 y7 y8 y9 y10 y11 y12 y13 y14 y15 y16 y17 y18 y19 y20 y21 y22 y23 y24 y25 y26 y27 y28 y29 y30 y31 y32 y33 y34 y35 y36 y37 y38 y39 y40 y41 y42 y50 y51 y52 y53 y54 y55 y56 y57 y58 y59 y60 y61 y62 y63 L a' w' → Q .normal a' w' := by
  rintro L a W hall ⟨x43, x44, x45, x46, x47, x48, x49, rfl, h⟩
  exact hq _ _ _ _ _ _ _ _ _ hall h
structure LY7 (W1 : World) (N : Nat) (w : World) (FV SC HV : List Value) (mg rg nb so cap : Nat) (c : Cfg) (B2 : List (List By)) (n : Nat) (vs : List Value) (bo : Option Addr) (bl bc : Nat) (L : Nat → Bool) (x50 x51 x52 x53 x54 x55 x56 x57 x58 x59 x60 x61 x62 : Value) (W : World) : Prop where
  x : Y7 N w FV SC mg rg nb so cap c B2 n vs (L 9) (L 10) (L 13) x59 x60 W
  p0 : L 0 = true → x50 = .pointer (some ⟨mg, 0, none⟩)
  p1 : L 1 = true → x51 = .pointer (some ⟨mg, 0, none⟩)
  p2 : L 2 = true → x52 = .pointer (some ⟨mg, 0, none⟩)
  p3 : L 3 = true → x53 = .pointer (some ⟨mg, 10, none⟩)
  p4 : L 4 = true → x54 = .slice (some ⟨so, 0, none⟩) (n + 1) cap
  p5 : L 5 = true → x55 = .agg FV.toArray
  p6 : L 6 = true → x56 = .slice bo bl bc
  p7 : L 7 = true → x57 = .agg HV.toArray
  p8 : L 8 = true → x58 = .agg SC.toArray
  p11 : L 11 = true → x61 = .pointer (some ⟨mg, 0, none⟩)
  p12 : L 12 = true → x62 = .pointer (some ⟨mg, 10, none⟩)
  c10_9 : L 10 = true → L 9 = true
  c13_10 : L 13 = true → L 10 = true
  c10_4 : L 10 = true → L 4 = true
  c13_4 : L 13 = true → L 4 = true
section
variable {W1 : World} {N : Nat} {w : World} {FV SC HV : List Value} {mg rg nb so cap : Nat} {c : Cfg} {B2 : List (List By)} {n : Nat} {vs : List Value} {bo : Option Addr} {bl bc : Nat} {L : Nat → Bool} {x50 x51 x52 x53 x54 x55 x56 x57 x58 x59 x60 x61 x62 : Value} {W W2 : World}
theorem LY7.s0 (h : LY7 W1 N w FV SC HV mg rg nb so cap c B2 n vs bo bl bc L x50 x51 x52 x53 x54 x55 x56 x57 x58 x59 x60 x61 x62 W) : LY7 W1 N w FV SC HV mg rg nb so cap c B2 n vs bo bl bc (upd L 0) (.pointer (some ⟨mg, 0, none⟩)) x51 x52 x53 x54 x55 x56 x57 x58 x59 x60 x61 x62 W :=
  ⟨h.x, fun _ => rfl, h.p1, h.p2, h.p3, h.p4, h.p5, h.p6, h.p7, h.p8, h.p11, h.p12, h.c10_9, h.c13_10, h.c10_4, h.c13_4⟩
theorem LY7.s1 (h : LY7 W1 N w FV SC HV mg rg nb so cap c B2 n vs bo bl bc L x50 x51 x52 x53 x54 x55 x56 x57 x58 x59 x60 x61 x62 W) : LY7 W1 N w FV SC HV mg rg nb so cap c B2 n vs bo bl bc (upd L 1) x50 (.pointer (some ⟨mg, 0, none⟩)) x52 x53 x54 x55 x56 x57 x58 x59 x60 x61 x62 W :=
  ⟨h.x, h.p0, fun _ => rfl, h.p2, h.p3, h.p4, h.p5, h.p6, h.p7, h.p8, h.p11, h.p12, h.c10_9, h.c13_10, h.c10_4, h.c13_4⟩
theorem LY7.s2 (h : LY7 W1 N w FV SC HV mg rg nb so cap c B2 n vs bo bl bc L x50 x51 x52 x53 x54 x55 x56 x57 x58 x59 x60 x61 x62 W) : LY7 W1 N w FV SC HV mg rg nb so cap c B2 n vs bo bl bc (upd L 2) x50 x51 (.pointer (some ⟨mg, 0, none⟩)) x53 x54 x55 x56 x57 x58 x59 x60 x61 x62 W :=
  ⟨h.x, h.p0, h.p1, fun _ => rfl, h.p3, h.p4, h.p5, h.p6, h.p7, h.p8, h.p11, h.p12, h.c10_9, h.c13_10, h.c10_4, h.c13_4⟩
theorem LY7.s3 (h : LY7 W1 N w FV SC HV mg rg nb so cap c B2 n vs bo bl bc L x50 x51 x52 x53 x54 x55 x56 x57 x58 x59 x60 x61 x62 W) : LY7 W1 N w FV SC HV mg rg nb so cap c B2 n vs bo bl bc (upd L 3) x50 x51 x52 (.pointer (some ⟨mg, 10, none⟩)) x54 x55 x56 x57 x58 x59 x60 x61 x62 W :=
  ⟨h.x, h.p0, h.p1, h.p2, fun _ => rfl, h.p4, h.p5, h.p6, h.p7, h.p8, h.p11, h.p12, h.c10_9, h.c13_10, h.c10_4, h.c13_4⟩
theorem LY7.s4 (h : LY7 W1 N w FV SC HV mg rg nb so cap c B2 n vs bo bl bc L x50 x51 x52 x53 x54 x55 x56 x57 x58 x59 x60 x61 x62 W) : LY7 W1 N w FV SC HV mg rg nb so cap c B2 n vs bo bl bc (upd L 4) x50 x51 x52 x53 (.slice (some ⟨so, 0, none⟩) (n + 1) cap) x55 x56 x57 x58 x59 x60 x61 x62 W :=
  ⟨h.x, h.p0, h.p1, h.p2, h.p3, fun _ => rfl, h.p5, h.p6, h.p7, h.p8, h.p11, h.p12, h.c10_9, h.c13_10, fun _ => rfl, fun _ => rfl⟩
theorem LY7.s5 (h : LY7 W1 N w FV SC HV mg rg nb so cap c B2 n vs bo bl bc L x50 x51 x52 x53 x54 x55 x56 x57 x58 x59 x60 x61 x62 W) : LY7 W1 N w FV SC HV mg rg nb so cap c B2 n vs bo bl bc (upd L 5) x50 x51 x52 x53 x54 (.agg FV.toArray) x56 x57 x58 x59 x60 x61 x62 W :=
  ⟨h.x, h.p0, h.p1, h.p2, h.p3, h.p4, fun _ => rfl, h.p6, h.p7, h.p8, h.p11, h.p12, h.c10_9, h.c13_10, h.c10_4, h.c13_4⟩
theorem LY7.s6 (h : LY7 W1 N w FV SC HV mg rg nb so cap c B2 n vs bo bl bc L x50 x51 x52 x53 x54 x55 x56 x57 x58 x59 x60 x61 x62 W) : LY7 W1 N w FV SC HV mg rg nb so cap c B2 n vs bo bl bc (upd L 6) x50 x51 x52 x53 x54 x55 (.slice bo bl bc) x57 x58 x59 x60 x61 x62 W :=
  ⟨h.x, h.p0, h.p1, h.p2, h.p3, h.p4, h.p5, fun _ => rfl, h.p7, h.p8, h.p11, h.p12, h.c10_9, h.c13_10, h.c10_4, h.c13_4⟩
theorem LY7.s7 (h : LY7 W1 N w FV SC HV mg rg nb so cap c B2 n vs bo bl bc L x50 x51 x52 x53 x54 x55 x56 x57 x58 x59 x60 x61 x62 W) (hX : Y7 N w FV SC mg rg nb so cap c B2 n vs ((upd L 7) 9) ((upd L 7) 10) ((upd L 7) 13) x59 x60 W2) : LY7 W1 N w FV SC HV mg rg nb so cap c B2 n vs bo bl bc (upd L 7) x50 x51 x52 x53 x54 x55 x56 (.agg HV.toArray) x58 x59 x60 x61 x62 W2 :=
  ⟨hX, h.p0, h.p1, h.p2, h.p3, h.p4, h.p5, h.p6, fun _ => rfl, h.p8, h.p11, h.p12, h.c10_9, h.c13_10, h.c10_4, h.c13_4⟩
theorem LY7.s8 (h : LY7 W1 N w FV SC HV mg rg nb so cap c B2 n vs bo bl bc L x50 x51 x52 x53 x54 x55 x56 x57 x58 x59 x60 x61 x62 W) : LY7 W1 N w FV SC HV mg rg nb so cap c B2 n vs bo bl bc (upd L 8) x50 x51 x52 x53 x54 x55 x56 x57 (.agg SC.toArray) x59 x60 x61 x62 W :=
  ⟨h.x, h.p0, h.p1, h.p2, h.p3, h.p4, h.p5, h.p6, h.p7, fun _ => rfl, h.p11, h.p12, h.c10_9, h.c13_10, h.c10_4, h.c13_4⟩
theorem LY7.s9 (h : LY7 W1 N w FV SC HV mg rg nb so cap c B2 n vs bo bl bc L x50 x51 x52 x53 x54 x55 x56 x57 x58 x59 x60 x61 x62 W) {v : Value} (hX : Y7 N w FV SC mg rg nb so cap c B2 n vs ((upd L 9) 9) ((upd L 9) 10) ((upd L 9) 13) v x60 W2) : LY7 W1 N w FV SC HV mg rg nb so cap c B2 n vs bo bl bc (upd L 9) x50 x51 x52 x53 x54 x55 x56 x57 x58 v x60 x61 x62 W2 :=
  ⟨hX, h.p0, h.p1, h.p2, h.p3, h.p4, h.p5, h.p6, h.p7, h.p8, h.p11, h.p12, fun _ => rfl, h.c13_10, h.c10_4, h.c13_4⟩
theorem LY7.s10 (h : LY7 W1 N w FV SC HV mg rg nb so cap c B2 n vs bo bl bc L x50 x51 x52 x53 x54 x55 x56 x57 x58 x59 x60 x61 x62 W) {v : Value} (hX : Y7 N w FV SC mg rg nb so cap c B2 n vs ((upd L 10) 9) ((upd L 10) 10) ((upd L 10) 13) x59 v W2) (hc9 : L 9 = true) (hc4 : L 4 = true) : LY7 W1 N w FV SC HV mg rg nb so cap c B2 n vs bo bl bc (upd L 10) x50 x51 x52 x53 x54 x55 x56 x57 x58 x59 v x61 x62 W2 :=
  ⟨hX, h.p0, h.p1, h.p2, h.p3, h.p4, h.p5, h.p6, h.p7, h.p8, h.p11, h.p12, fun _ => hc9, fun _ => rfl, fun _ => hc4, h.c13_4⟩
theorem LY7.s11 (h : LY7 W1 N w FV SC HV mg rg nb so cap c B2 n vs bo bl bc L x50 x51 x52 x53 x54 x55 x56 x57 x58 x59 x60 x61 x62 W) : LY7 W1 N w FV SC HV mg rg nb so cap c B2 n vs bo bl bc (upd L 11) x50 x51 x52 x53 x54 x55 x56 x57 x58 x59 x60 (.pointer (some ⟨mg, 0, none⟩)) x62 W :=
  ⟨h.x, h.p0, h.p1, h.p2, h.p3, h.p4, h.p5, h.p6, h.p7, h.p8, fun _ => rfl, h.p12, h.c10_9, h.c13_10, h.c10_4, h.c13_4⟩
theorem LY7.s12 (h : LY7 W1 N w FV SC HV mg rg nb so cap c B2 n vs bo bl bc L x50 x51 x52 x53 x54 x55 x56 x57 x58 x59 x60 x61 x62 W) : LY7 W1 N w FV SC HV mg rg nb so cap c B2 n vs bo bl bc (upd L 12) x50 x51 x52 x53 x54 x55 x56 x57 x58 x59 x60 x61 (.pointer (some ⟨mg, 10, none⟩)) W :=
  ⟨h.x, h.p0, h.p1, h.p2, h.p3, h.p4, h.p5, h.p6, h.p7, h.p8, h.p11, fun _ => rfl, h.c10_9, h.c13_10, h.c10_4, h.c13_4⟩
theorem LY7.s13 (h : LY7 W1 N w FV SC HV mg rg nb so cap c B2 n vs bo bl bc L x50 x51 x52 x53 x54 x55 x56 x57 x58 x59 x60 x61 x62 W) (hX : Y7 N w FV SC mg rg nb so cap c B2 n vs ((upd L 13) 9) ((upd L 13) 10) ((upd L 13) 13) x59 x60 W2) (hc10 : L 10 = true) (hc4 : L 4 = true) : LY7 W1 N w FV SC HV mg rg nb so cap c B2 n vs bo bl bc (upd L 13) x50 x51 x52 x53 x54 x55 x56 x57 x58 x59 x60 x61 x62 W2 :=
  ⟨hX, h.p0, h.p1, h.p2, h.p3, h.p4, h.p5, h.p6, h.p7, h.p8, h.p11, h.p12, h.c10_9, fun _ => hc10, h.c10_4, fun _ => hc4⟩
end
@[reducible] def ILY7 (W1 : World) (N : Nat) (w : World) (FV SC HV : List Value) (mg rg nb so cap : Nat) (c : Cfg) (B2 : List (List By)) (n : Nat) (vs : List Value) (bo : Option Addr) (bl bc : Nat) (y0 y1 y2 y3 y4 y5 y6 y7 y8 y9 y10 y11 y12 y13 y14 y15 y16 y17 y18 y19 y20 y21 y22 y23 y24 y25 y26 y27 y28 y29 y30 y31 y32 y33 y34 y35 y36 y37 y38 y39 y40 y41 y42 y43 y44 y45 y46 y47 y48 y49 y63 : Value) : (Nat → Bool) → Act → World → Prop := fun L a W => ∃ x50 x51 x52 x53 x54 x55 x56 x57 x58 x59 x60 x61 x62, a = ⟨#[y0, y1, y2, y3, y4, y5, y6, y7, y8, y9, y10, y11, y12, y13, y14, y15, y16, y17, y18, y19, y20, y21, y22, y23, y24, y25, y26, y27, y28, y29, y30, y31, y32, y33, y34, y35, y36, y37, y38, y39, y40, y41, y42, y43, y44, y45, y46, y47, y48, y49, x50, x51, x52, x53, x54, x55, x56, x57, x58, x59, x60, x61, x62, y63], []⟩ ∧ LY7 W1 N w FV SC HV mg rg nb so cap c B2 n vs bo bl bc L x50 x51 x52 x53 x54 x55 x56 x57 x58 x59 x60 x61 x62 W
theorem LY7.step {W1 : World} {N : Nat} {w : World} {FV SC HV : List Value} {mg rg nb so cap : Nat} {c : Cfg} {B2 : List (List By)} {n : Nat} {vs : List Value} {bo : Option Addr} {bl bc : Nat} {y0 y1 y2 y3 y4 y5 y6 y7 y8 y9 y10 y11 y12 y13 y14 y15 y16 y17 y18 y19 y20 y21 y22 y23 y24 y25 y26 y27 y28 y29 y30 y31 y32 y33 y34 y35 y36 y37 y38 y39 y40 y41 y42 y43 y44 y45 y46 y47 y48 y49 y63 : Value} {P : Program} {ops : Array Oper} {Q : Exit → Act → World → Prop} {i : Nat} {o : Oper} (hq : ∀ x50 x51 x52 x53 x54 x55 x56 x57 x58 x59 x60 x61 x62 (L : Nat → Bool) (W : World), LY7 W1 N w FV SC HV mg rg nb so cap c B2 n vs bo bl bc L x50 x51 x52 x53 x54 x55 x56 x57 x58 x59 x60 x61 x62 W → L i = false → (∀ j ∈ onesOf o, L j = true) → ∀ K : Act → World → Prop, Shut (∀ a' w', ILY7 W1 N w FV SC HV mg rg nb so cap c B2 n vs bo bl bc y0 y1 y2 y3 y4 y5 y6 y7 y8 y9 y10 y11 y12 y13 y14 y15 y16 y17 y18 y19 y20 y21 y22 y23 y24 y25 y26 y27 y28 y29 y30 y31 y32 y33 y34 y35 y36 y37 y38 y39 y40 y41 y42 y43 y44 y45 y46 y47 y48 y49 y63 (upd L i) a' w' → K a' w') → if Region.wanted o (yielded ops (⟨#[y0, y1, y2, y3, y4, y5, y6, y7, y8, y9, y10, y11, y12, y13, y14, y15, y16, y17, y18, y19, y20, y21, y22, y23, y24, y25, y26, y27, y28, y29, y30, y31, y32, y33, y34, y35, y36, y37, y38, y39, y40, y41, y42, y43, y44, y45, y46, y47, y48, y49, x50, x51, x52, x53, x54, x55, x56, x57, x58, x59, x60, x61, x62, y63], []⟩ : Act).tmps) = true then Oper.wp P o ⟨#[y0, y1, y2, y3, y4, y5, y6, y7, y8, y9, y10, y11, y12, y13, y14, y15, y16, y17, y18, y19, y20, y21, y22, y23, y24, y25, y26, y27, y28, y29, y30, y31, y32, y33, y34, y35, y36, y37, y38, y39, y40, y41, y42, y43, y44, y45, y46, y47, y48, y49, x50, x51, x52, x53, x54, x55, x56, x57, x58, x59, x60, x61, x62, y63], []⟩ W K Q else K ((⟨#[y0, y1, y2, y3, y4, y5, y6, y7, y8, y9, y10, y11, y12, y13, y14, y15, y16, y17, y18, y19, y20, y21, y22, y23, y24, y25, y26, y27, y28, y29, y30, y31, y32, y33, y34, y35, y36, y37, y38, y39, y40, y41, y42, y43, y44, y45, y46, y47, y48, y49, x50, x51, x52, x53, x54, x55, x56, x57, x58, x59, x60, x61, x62, y63], []⟩ : Act).put o.dst undef) W) : StepI P ops (ILY7 W1 N w FV SC HV mg rg nb so cap c B2 n vs bo bl bc y0 y1 y2 y3 y4 y5 y6 y7 y8 y9 y10 y11 y12 y13 y14 y15 y16 y17 y18 y19 y20 y21 y22 y23 y24 y25 y26 y27 y28 y29 y30 y31 y32 y33 y34 y35 y36 y37 y38 y39 y40 y41 y42 y43 y44 y45 y46 y47 y48 y49 y63) Q i o := by
  rintro L a W ⟨x50, x51, x52, x53, x54, x55, x56, x57, x58, x59, x60, x61, x62, rfl, h⟩
  exact hq _ _ _ _ _ _ _ _ _ _ _ _ _ _ _ h
theorem LY7.ends {W1 : World} {N : Nat} {w : World} {FV SC HV : List Value} {mg rg nb so cap : Nat} {c : Cfg} {B2 : List (List By)} {n : Nat} {vs : List Value} {bo : Option Addr} {bl bc : Nat} {y0 y1 y2 y3 y4 y5 y6 y7 y8 y9 y10 y11 y12 y13 y14 y15 y16 y17 y18 y19 y20 y21 y22 y23 y24 y25 y26 y27 y28 y29 y30 y31 y32 y33 y34 y35 y36 y37 y38 y39 y40 y41 y42 y43 y44 y45 y46 y47 y48 y49 y63 : Value} {mm_ : Nat} {Q : Exit → Act → World → Prop} (hq : ∀ x50 x51 x52 x53 x54 x55 x56 x57 x58 x59 x60 x61 x62 (L : Nat → Bool) (W : World), (∀ j, j < mm_ → L j = true) → LY7 W1 N w FV SC HV mg rg nb so cap c B2 n vs bo bl bc L x50 x51 x52 x53 x54 x55 x56 x57 x58 x59 x60 x61 x62 W → Q .normal ⟨#[y0, y1, y2, y3, y4, y5, y6, y7, y8, y9, y10, y11, y12, y13, y14, y15, y16, y17, y18, y19, y20, y21, y22, y23, y24, y25, y26, y27, y28, y29, y30, y31, y32, y33, y34, y35, y36, y37, y38, y39, y40, y41, y42, y43, y44, y45, y46, y47, y48, y49, x50, x51, x52, x53, x54, x55, x56, x57, x58, x59, x60, x61, x62, y63], []⟩ W) : ∀ L a' w', (∀ j, j < mm_ → L j = true) → ILY7 W1 N w FV SC HV mg rg nb so cap c B2 n vs bo bl bc y0 y1 y2 y3 y4 y5 y6 y7 y8 y9 y10 y11 y12 y13 y14 y15 y16 y17 y18 y19 y20 y21 y22 y23 y24 y25 y26 y27 y28 y29 y30 y31 y32 y33 y34 y35 y36 y37 y38 y39 y40 y41 y42 y43 y44 y45 y46 y47 y48 y49 y63 L a' w' → Q .normal a' w' := by
  rintro L a W hall ⟨x50, x51, x52, x53, x54, x55, x56, x57, x58, x59, x60, x61, x62, rfl, h⟩
  exact hq _ _ _ _ _ _ _ _ _ _ _ _ _ _ _ hall h
set_option maxHeartbeats 4000000 in
set_option maxRecDepth 100000 in
theorem lay_new {N : Nat} {w : World} {mg rg nb so cap : Nat} {c : Cfg} {l : Secs} {B : List (List By)} (h : MdM N w mg rg nb so cap c l B) (hB : B.length ≤ 2932031007402) (bo : Option Addr) (bc : Nat) (b : List By) (hI0 : ∀ W, Below N w W → IsB W bo b) (hcap : b.length ≤ bc) (hbl : b.length ≤ 140737488353280) (h0 : (findC c l b).wrong = 0) (hsg : (findC c l b).signed = true) (hz : ¬ c.size19 < b.length) (hf : B.findIdx? (· == b) = none) :
    Calls Tryz.prog 75 #[.pointer (some ⟨mg, 0, none⟩), .agg (fdC (findC c l b)).toArray, .slice bo b.length bc] w (LayP N mg rg nb so c l B b w) := by
  obtain ⟨w1, hw1⟩ : ∃ w1, w1 = w.alloc (.cells (fdC (findC c l b)).toArray 89) := ⟨_, rfl⟩
  have hb1 : Below w.heap.size w w1 := by rw [hw1]; exact (Below.refl _ _).alloc (Nat.le_refl _) _
  have r1 : Row w1 w.heap.size 89 (fdC (findC c l b)) := by rw [hw1]; exact Row.at _ _ _ _ _ rfl rfl
  have c0 : w1.cell? ⟨w.heap.size, 0, none⟩ = some (.int .i64 0) := by rw [← h0]; exact r1.cell 0 _ rfl
  have c1 : w1.cell? ⟨w.heap.size, 1, none⟩ = some (.bool true) := by rw [← hsg]; exact r1.cell 1 _ rfl
  have c9 : w1.cell? ⟨mg, 9, none⟩ = some (.int .i64 c.size19) := (h.keep hb1).row.cell 9 _ rfl
  have HQ : Hid (layC c l B b = (B.length + 1, B ++ [b])) := by
    show layC c l B b = _
    unfold layC
    rw [if_neg (by rintro (q | q | q); exact q h0; rw [hsg] at q; cases q; exact hz q), hf]
  have MD : Hid (∀ W, Below w.heap.size w W → MdM N W mg rg nb so cap c l B) := fun W hW => h.keep hW
  have HB1 : Hid (YW w (fdC (findC c l b)) w1) := ⟨hb1, r1⟩
  have LK : Hid (∀ W, Below w.heap.size w W → (Instr.lookup 93 (.map (some nb)) (.string (strOf b)) true).run Tryz.prog W = .ok (.tuple #[.int .i64 0, .bool false]) W) := fun W hW => ms_look_none (MD.out W hW).num b hf
  have CV : Hid (∀ W, Below w.heap.size w W → (convert 32 9 (.slice bo b.length bc)).run Tryz.prog W = .ok (.string (strOf b)) W) := fun W hW => conv_bytes W bo b.length bc b rfl (hI0 W (hW.mono h.ne.2.2.2.2))
  have CM : Hid (∀ W, Below w.heap.size w W → W.cell? ⟨mg, 11, none⟩ = some (.map (some nb))) := fun W hW => (MD.out W hW).row.cell 11 _ rfl
  have HF : Hid (B.findIdx? (· == b) = none) := hf
  obtain ⟨n1, n2, n3, n4, n5⟩ := h.ne
  have hlo := h.lo
  have hmg := h.row.lt
  have hnb := h.num.lt
  have hso : so < w.heap.size := by obtain ⟨cs, hr, _⟩ := own_at h.own; exact hr.lt
  have X1 : Hid (∀ i, i < N → ¬ (i = nb)) := fun i hi e => by omega
  have X3 : Hid (∀ i, i < N → ¬ (i = nb ∨ i = so ∨ i = mg)) := fun i hi e => by omega
  have CM6 : Hid (∀ W, LyB (fun i => i = nb) w W → W.cell? ⟨mg, 11, none⟩ = some (.map (some nb))) := fun W hW => (hW.row h.row n1).cell 11 _ rfl
  have CV6 : Hid (∀ W, LyB (fun i => i = nb) w W → (convert 32 9 (.slice bo b.length bc)).run Tryz.prog W = .ok (.string (strOf b)) W) := fun W hW => conv_bytes W bo b.length bc b rfl (hI0 W (hW.below n5 X1.out))
  have OF : Hid (∀ W, LyB (fun i => i = nb ∨ i = so ∨ i = mg) w W → Calls Tryz.prog 90 #[.slice bo b.length bc] W fun e w' => e = .returned (.agg ((sha b).map B8).toArray) ∧ Below W.heap.size W w') := fun W hW => of_any bo bc b W (hI0 W (hW.below n5 X3.out)) hcap hbl
  have BST : Hid (∀ W, (Instr.build 91 #[(0, .agg (fdC (findC c l b)).toArray), (1, .agg ((sha b).map B8).toArray)]).run Tryz.prog W = .ok (.agg (fdC (findC c l b) ++ (sha b).map B8).toArray) W) := fun W => build_stg (findC c l b) W (sha b) (sha_len b)
  have LSC : Hid ((fdC (findC c l b) ++ (sha b).map B8).length = 37) := by show (fdC (findC c l b) ++ (sha b).map B8).length = 37; rw [List.length_append, List.length_map, sha_len]; rfl
  have OSC : Hid (∀ v ∈ fdC (findC c l b) ++ (sha b).map B8, v.oneCell' = true) := fun v hv => by
    rcases List.mem_append.1 hv with q | q
    · exact fdC_one _ v q
    · exact B8_one _ v q
  have LF : Hid ((fdC (findC c l b)).length = 5) := rfl
  have HFd : Hid (((fdC (findC c l b)).drop 0).take 5 = fdC (findC c l b)) := rfl
  have START : Hid (∀ W, Y6 w (fdC (findC c l b)) nb B b true W → Y7 N w (fdC (findC c l b)) (fdC (findC c l b) ++ (sha b).map B8) mg rg nb so cap c (B ++ [b]) B.length (flS c l B) false false false undef undef W) := fun W hW => by
    refine ⟨⟨hW.ly.os, hW.ly.tape, hW.ly.output, hW.ly.size, fun i hi he => hW.ly.block i hi (fun e => he (.inl e))⟩, hW.f, hW.ms, hW.ly.row h.row n1, fun _ => ⟨h.own.1, ?_⟩, (fun e => by cases e), (fun e => by cases e)⟩
    rcases h.own.2 with h1 | ⟨g, c, cur, e, hg, hh, hr⟩
    · exact .inl h1
    · injection e with e1 e2 e3
      injection e1 with e1
      injection e1 with e1
      subst e1
      exact .inr ⟨so, c, cur, by rw [e3], hg, (hW.ly.block so hso (fun e => n2 e)).trans hh, hr⟩
  have FIN : Hid (∀ (W : World) (x59 x60 : Value), Y7 N w (fdC (findC c l b)) (fdC (findC c l b) ++ (sha b).map B8) mg rg nb so cap c (B ++ [b]) B.length (flS c l B) true true true x59 x60 W → LayP N mg rg nb so c l B b w (.returned (.int .i64 ((B.length : Int) + 1))) W) := fun W x59 x60 hW => by
    unfold LayP
    rw [HQ.out]
    obtain ⟨so', cap', hx, ho⟩ := hW.n60 rfl
    refine ⟨by congr 2, ⟨so', cap', ?_⟩, hW.ly⟩
    have e : (B ++ [b]).length + 1 = B.length + 2 := by simp
    have hbN := hW.ly.below n5 X3.out
    refine ⟨?_, ?_, h.l256, ?_, hW.ms, h.lo⟩
    · rw [e, ← hx]; exact hW.md
    · obtain ⟨K, b0, vs, k⟩ := h.ring
      exact ⟨K, b0, vs, k.keep hW.ly.size (fun j h1 h2 => hbN.block j h2)⟩
    · rw [e, flS_push]; exact ho
  have MGW : Hid (mg < w.heap.size) := hmg
  have SOW : Hid (so < w.heap.size) := hso
  clear h0 hsg hf hb1 r1 h hI0 hcap hbl
  have NF : Hid (mg ≠ so ∧ nb ≠ so ∧ w.heap.size ≠ so ∧ mg ≠ nb) := ⟨n3, fun e => n2 e.symm, by show _ ≠ _; omega, n1⟩
  have C10 : Hid (∀ W, Below w.heap.size w W → W.cell? ⟨mg, 10, none⟩ = some (.slice (some ⟨so, 0, none⟩) (B.length + 1) cap)) := fun W hW => (MD.out W hW).row.cell 10 _ rfl
  have HN5 : Hid (N ≤ w.heap.size) := n5
  clear n1 n2 n3 n4 n5 hlo hmg hnb hso
  generalize findC c l b = F at *
  generalize (sha b).map B8 = HV at *
  generalize hSB : strOf b = SB at *
  go_enter Tryz.func75, Tryz.ntmps75
  go_wp2_with (rw [← hw1]; have hz := hw1; clear hz hw1)
  refine wp_region_inv (ILY3N w w (fdC F) mg nb bo b.length bc SB 0 _ _ _ _ _ _ _ _ _ _ _ _ _ _ _ _ _ _ _ _ _ _ _ _ _ _ _ _ _ _ _ _ _ _ _ _ _ _ _ _ _ _ _ _ _ _ _ _ _ _ _ _) (by kernel_rfl) (by kernel_rfl) ⟨_, _, _, _, _, _, _, _, _, _, _, _, rfl, ⟨HB1.out.drew, fun k => (by cases k), fun k => (by cases k), fun k => (by cases k), fun k => (by cases k), fun k => (by cases k), fun k => (by cases k), fun k => (by cases k), fun k => (by cases k), fun k => (by cases k), fun k => (by cases k), fun k => (by cases k), fun k => (by cases k)⟩⟩ ?_ ?_
  · refine .cons ?_ (.cons ?_ (.cons ?_ (.cons ?_ (.cons ?_ (.cons ?_ (.cons ?_ (.cons ?_ (.cons ?_ (.cons ?_ (.cons ?_ (.cons ?_ .nil)))))))))))
    all_goals (refine LY3N.step ?_; intro x27 x28 x29 x30 x31 x32 x33 x26 x34 x35 x7 x8 L W hI hL hd K hK)
    · rw [if_pos (by rfl)]
      go_simp
      exact hK.out _ _ ⟨_, _, _, _, _, _, _, _, _, _, _, _, rfl, hI.s0⟩
    · have hx0 := hI.p0 (hd 0 (by decide))
      subst hx0
      rw [if_pos (by rfl)]
      go_simp
      exact hK.out _ _ ⟨_, _, _, _, _, _, _, _, _, _, _, _, rfl, hI.s1⟩
    · have hx1 := hI.p1 (hd 1 (by decide))
      subst hx1
      rw [if_pos (by rfl)]
      go_simp
      exact hK.out _ _ ⟨_, _, _, _, _, _, _, _, _, _, _, _, rfl, hI.s2⟩
    · have hx2 := hI.p2 (hd 2 (by decide))
      subst hx2
      rw [if_pos (by rfl)]
      have hc := CM.out _ hI.x.bel
      go_simp
      exact hK.out _ _ ⟨_, _, _, _, _, _, _, _, _, _, _, _, rfl, hI.s3⟩
    · rw [if_pos (by rfl)]
      go_simp
      exact hK.out _ _ ⟨_, _, _, _, _, _, _, _, _, _, _, _, rfl, hI.s4⟩
    · have hx4 := hI.p4 (hd 4 (by decide))
      subst hx4
      rw [if_pos (by rfl)]
      have hcv := CV.out _ hI.x.bel
      go_simp
      exact hK.out _ _ ⟨_, _, _, _, _, _, _, _, _, _, _, _, rfl, hI.s5⟩
    · have hx3 := hI.p3 (hd 3 (by decide))
      subst hx3
      have hx5 := hI.p5 (hd 5 (by decide))
      subst hx5
      rw [if_pos (by rfl)]
      have hlk := LK.out _ hI.x.bel
      go_simp
      exact hK.out _ _ ⟨_, _, _, _, _, _, _, _, _, _, _, _, rfl, hI.s6⟩
    · have hx6 := hI.p6 (hd 6 (by decide))
      subst hx6
      rw [if_pos (by rfl)]
      go_simp
      exact hK.out _ _ ⟨_, _, _, _, _, _, _, _, _, _, _, _, rfl, hI.s7⟩
    · have hx7 := hI.p7 (hd 7 (by decide))
      subst hx7
      rw [if_pos (by rfl)]
      go_simp
      exact hK.out _ _ ⟨_, _, _, _, _, _, _, _, _, _, _, _, rfl, hI.s8⟩
    · have hx7 := hI.p7 (hd 7 (by decide))
      subst hx7
      rw [if_pos (by rfl)]
      go_simp
      exact hK.out _ _ ⟨_, _, _, _, _, _, _, _, _, _, _, _, rfl, hI.s9⟩
    · have hx8 := hI.p8 (hd 8 (by decide))
      subst hx8
      rw [if_pos (by rfl)]
      go_simp
      exact hK.out _ _ ⟨_, _, _, _, _, _, _, _, _, _, _, _, rfl, hI.s10⟩
    · have hx9 := hI.p9 (hd 9 (by decide))
      subst hx9
      rw [if_pos (by rfl)]
      go_simp
      exact hK.out _ _ ⟨_, _, _, _, _, _, _, _, _, _, _, _, rfl, hI.s11⟩
  · refine LY3N.ends ?_; intro x27 x28 x29 x30 x31 x32 x33 x26 x34 x35 x7 x8 L W hall hI
    have hx0 := hI.p0 (hall 0 (by decide))
    subst hx0
    have hx1 := hI.p1 (hall 1 (by decide))
    subst hx1
    have hx2 := hI.p2 (hall 2 (by decide))
    subst hx2
    have hx3 := hI.p3 (hall 3 (by decide))
    subst hx3
    have hx4 := hI.p4 (hall 4 (by decide))
    subst hx4
    have hx5 := hI.p5 (hall 5 (by decide))
    subst hx5
    have hx6 := hI.p6 (hall 6 (by decide))
    subst hx6
    have hx7 := hI.p7 (hall 7 (by decide))
    subst hx7
    have hx8 := hI.p8 (hall 8 (by decide))
    subst hx8
    have hx9 := hI.p9 (hall 9 (by decide))
    subst hx9
    have hx10 := hI.p10 (hall 10 (by decide))
    subst hx10
    have hx11 := hI.p11 (hall 11 (by decide))
    subst hx11
    have hXe := hI.x
    clear hI hall
    try dsimp only
    have c10 := C10.out W hXe.bel
    have HS6 : Hid (Y6 w (fdC F) nb B b false W) := ⟨(LyB.refl w).keep hXe.bel, hXe.f, (MD.out W hXe.bel).num⟩
    clear hXe HB1 C10 MD
    go_wp2
    refine wp_region_inv (ILY6 w w (fdC F) mg nb B b bo b.length bc SB _ _ _ _ _ _ _ _ _ _ _ _ _ _ _ _ _ _ _ _ _ _ _ _ _ _ _ _ _ _ _ _ _ _ _ _ _ _ _ _ _ _ _ _ _ _ _ _ _ _ _ _ _ _ _ _ _) (by kernel_rfl) (by kernel_rfl) ⟨_, _, _, _, _, _, _, rfl, ⟨HS6.out.drew, fun k => (by cases k), fun k => (by cases k), fun k => (by cases k), fun k => (by cases k), fun k => (by cases k), fun k => (by cases k), fun k => (by cases k)⟩⟩ ?_ ?_
    · refine .cons ?_ (.cons ?_ (.cons ?_ (.cons ?_ (.cons ?_ (.cons ?_ (.cons ?_ (.cons ?_ .nil)))))))
      all_goals (refine LY6.step ?_; intro x43 x44 x45 x46 x47 x48 x49 L W hI hL hd K hK)
      · rw [if_pos (by rfl)]
        go_simp
        exact hK.out _ _ ⟨_, _, _, _, _, _, _, rfl, hI.s0⟩
      · have hx0 := hI.p0 (hd 0 (by decide))
        subst hx0
        rw [if_pos (by rfl)]
        go_simp
        exact hK.out _ _ ⟨_, _, _, _, _, _, _, rfl, hI.s1⟩
      · have hx1 := hI.p1 (hd 1 (by decide))
        subst hx1
        rw [if_pos (by rfl)]
        go_simp
        exact hK.out _ _ ⟨_, _, _, _, _, _, _, rfl, hI.s2⟩
      · have hx2 := hI.p2 (hd 2 (by decide))
        subst hx2
        rw [if_pos (by rfl)]
        have hc := CM6.out _ hI.x.ly
        go_simp
        exact hK.out _ _ ⟨_, _, _, _, _, _, _, rfl, hI.s3⟩
      · rw [if_pos (by rfl)]
        go_simp
        exact hK.out _ _ ⟨_, _, _, _, _, _, _, rfl, hI.s4⟩
      · have hx4 := hI.p4 (hd 4 (by decide))
        subst hx4
        rw [if_pos (by rfl)]
        have hcv := CV6.out _ hI.x.ly
        go_simp
        exact hK.out _ _ ⟨_, _, _, _, _, _, _, rfl, hI.s5⟩
      · rw [if_pos (by rfl)]
        go_simp
        exact hK.out _ _ ⟨_, _, _, _, _, _, _, rfl, hI.s6⟩
      · have hx3 := hI.p3 (hd 3 (by decide))
        subst hx3
        have hx5 := hI.p5 (hd 5 (by decide))
        subst hx5
        have hx6 := hI.p6 (hd 6 (by decide))
        subst hx6
        have hx0 := hI.x
        rw [hL] at hx0
        refine step_ms_update rfl _ _ _ rfl nb B b rfl (by rw [hSB]; rfl) (congrArg (Value.int .i64) (by omega)) hx0.ms HF.out ?_
        intro W2 hm2 hs2
        have hX : Y6 w (fdC F) nb B b true W2 := ⟨hx0.ly.but hs2 (fun _ => rfl), hx0.f.but hs2 (by have := hx0.ms.notRow hx0.f; omega), hm2⟩
        exact hK.out _ _ ⟨_, _, _, _, _, _, _, rfl, hI.s7 hX⟩
    · refine LY6.ends ?_; intro x43 x44 x45 x46 x47 x48 x49 L W hall hI
      have hx0 := hI.p0 (hall 0 (by decide))
      subst hx0
      have hx1 := hI.p1 (hall 1 (by decide))
      subst hx1
      have hx2 := hI.p2 (hall 2 (by decide))
      subst hx2
      have hx3 := hI.p3 (hall 3 (by decide))
      subst hx3
      have hx4 := hI.p4 (hall 4 (by decide))
      subst hx4
      have hx5 := hI.p5 (hall 5 (by decide))
      subst hx5
      have hx6 := hI.p6 (hall 6 (by decide))
      subst hx6
      have hXe := hI.x
      rw [hall 7 (by decide)] at hXe
      clear hI hall
      try dsimp only
      have HS7 : Hid (Y7 N w (fdC F) (fdC F ++ HV) mg rg nb so cap c (B ++ [b]) B.length (flS c l B) false false false undef undef W) := START.out W hXe
      clear hXe HS6 START
      generalize hSC : fdC F ++ HV = SC at *
      clear hSC
      go_wp2
      refine wp_region_inv (ILY7 w N w (fdC F) SC HV mg rg nb so cap c (B ++ [b]) B.length (flS c l B) bo b.length bc _ _ _ _ _ _ _ _ _ _ _ _ _ _ _ _ _ _ _ _ _ _ _ _ _ _ _ _ _ _ _ _ _ _ _ _ _ _ _ _ _ _ _ _ _ _ _ _ _ _ _) (by kernel_rfl) (by kernel_rfl) ⟨_, _, _, _, _, _, _, _, _, _, _, _, _, rfl, ⟨HS7.out.drew, fun k => (by cases k), fun k => (by cases k), fun k => (by cases k), fun k => (by cases k), fun k => (by cases k), fun k => (by cases k), fun k => (by cases k), fun k => (by cases k), fun k => (by cases k), fun k => (by cases k), fun k => (by cases k), fun k => (by cases k), fun k => (by cases k), fun k => (by cases k), fun k => (by cases k)⟩⟩ ?_ ?_
      · refine .cons ?_ (.cons ?_ (.cons ?_ (.cons ?_ (.cons ?_ (.cons ?_ (.cons ?_ (.cons ?_ (.cons ?_ (.cons ?_ (.cons ?_ (.cons ?_ (.cons ?_ (.cons ?_ .nil)))))))))))))
        all_goals (refine LY7.step ?_; intro x50 x51 x52 x53 x54 x55 x56 x57 x58 x59 x60 x61 x62 L W hI hL hd K hK)
        · rw [if_pos (by rfl)]
          go_simp
          exact hK.out _ _ ⟨_, _, _, _, _, _, _, _, _, _, _, _, _, rfl, hI.s0⟩
        · rw [if_pos (by rfl)]
          go_simp
          exact hK.out _ _ ⟨_, _, _, _, _, _, _, _, _, _, _, _, _, rfl, hI.s1⟩
        · have hx1 := hI.p1 (hd 1 (by decide))
          subst hx1
          rw [if_pos (by rfl)]
          go_simp
          exact hK.out _ _ ⟨_, _, _, _, _, _, _, _, _, _, _, _, _, rfl, hI.s2⟩
        · have hx2 := hI.p2 (hd 2 (by decide))
          subst hx2
          rw [if_pos (by rfl)]
          go_simp
          exact hK.out _ _ ⟨_, _, _, _, _, _, _, _, _, _, _, _, _, rfl, hI.s3⟩
        · have hx3 := hI.p3 (hd 3 (by decide))
          subst hx3
          rw [if_pos (by rfl)]
          have hn13 : L 13 = false := Bool.eq_false_iff.2 (fun e => (by have h7 := hI.c13_4 e; rw [hL] at h7; exact Bool.noConfusion h7))
          have hr0 := hI.x.md
          rw [hn13] at hr0
          have hc := hr0.cell 10 _ rfl
          go_simp
          exact hK.out _ _ ⟨_, _, _, _, _, _, _, _, _, _, _, _, _, rfl, hI.s4⟩
        · refine step_load_part (by rfl) 89 _ rfl w.heap.size 0 89 5 (fdC F) hI.x.f rfl _ (fdC F) HFd.out LF.out Tryz.underlying89 rfl (by kernel_rfl) ?_
          exact hK.out _ _ ⟨_, _, _, _, _, _, _, _, _, _, _, _, _, rfl, hI.s5⟩
        · rw [if_pos (by rfl)]
          go_simp
          exact hK.out _ _ ⟨_, _, _, _, _, _, _, _, _, _, _, _, _, rfl, hI.s6⟩
        · have hx6 := hI.p6 (hd 6 (by decide))
          subst hx6
          rw [if_pos (by rfl)]
          go_simp
          refine (OF.out _ hI.x.ly).mono ?_
          rintro e W2 ⟨rfl, hb3⟩
          go_simp
          have hX := hI.x.keep hb3
          exact hK.out _ _ ⟨_, _, _, _, _, _, _, _, _, _, _, _, _, rfl, hI.s7 hX⟩
        · have hx5 := hI.p5 (hd 5 (by decide))
          subst hx5
          have hx7 := hI.p7 (hd 7 (by decide))
          subst hx7
          refine step_build_to (by rfl) 91 0 1 _ _ rfl _ _ _ rfl rfl (BST.out _) ?_
          exact hK.out _ _ ⟨_, _, _, _, _, _, _, _, _, _, _, _, _, rfl, hI.s8⟩
        · have hx8 := hI.p8 (hd 8 (by decide))
          subst hx8
          have hn10 : L 10 = false := Bool.eq_false_iff.2 (fun e => (by have h7 := hI.c10_9 e; rw [hL] at h7; exact Bool.noConfusion h7))
          refine step_build_stg (by rfl) _ rfl SC LSC.out rfl ?_
          have hX := hI.x.build hn10
          exact hK.out _ _ ⟨_, _, _, _, _, _, _, _, _, _, _, _, _, rfl, hI.s9 hX⟩
        · have hx4 := hI.p4 (hd 4 (by decide))
          subst hx4
          have hn13 : L 13 = false := Bool.eq_false_iff.2 (fun e => (by have h7 := hI.c13_10 e; rw [hL] at h7; exact Bool.noConfusion h7))
          obtain ⟨G, hx, hG, hrow⟩ := hI.x.n59 (hd 9 (by decide))
          subst hx
          refine step_append_stg (by rfl) _ _ rfl N so B.length cap G (flS c l B) SC rfl rfl (hI.x.own hL) (Nat.le_trans HN5.out hI.x.ly.size) hrow LSC.out OSC.out hB ?_
          intro so2 cap2 W2 ho2 hb2 hz2 hk2
          have hX := hI.x.push hn13 hz2 hb2 hk2 NF.out.1 NF.out.2.1 NF.out.2.2.1 ho2 (fun G2 e2 => (by injection e2 with e2 _ _; injection e2 with e2; injection e2 with e2; have := SOW.out; omega))
          exact hK.out _ _ ⟨_, _, _, _, _, _, _, _, _, _, _, _, _, rfl, hI.s10 hX (hd 9 (by decide)) (hd 4 (by decide))⟩
        · have hx0 := hI.p0 (hd 0 (by decide))
          subst hx0
          rw [if_pos (by rfl)]
          go_simp
          exact hK.out _ _ ⟨_, _, _, _, _, _, _, _, _, _, _, _, _, rfl, hI.s11⟩
        · have hx11 := hI.p11 (hd 11 (by decide))
          subst hx11
          rw [if_pos (by rfl)]
          go_simp
          exact hK.out _ _ ⟨_, _, _, _, _, _, _, _, _, _, _, _, _, rfl, hI.s12⟩
        · have hx12 := hI.p12 (hd 12 (by decide))
          subst hx12
          have h10 := hd 10 (by decide)
          obtain ⟨so2, cap2, hx, ho2⟩ := hI.x.n60 h10
          subst hx
          have hr0 := hI.x.md
          rw [hL] at hr0
          have hc := hr0.cell 10 _ rfl
          have hff : W.frozen? ⟨mg, 10, none⟩ = false := hr0.frozen 10
          rw [if_pos (by rfl)]
          go_simp
          have hX := hI.x.store h10 hL MGW.out (SameBut.setCell mg 10 _ W) (hr0.set 10 _)
          exact hK.out _ _ ⟨_, _, _, _, _, _, _, _, _, _, _, _, _, rfl, hI.s13 hX (hd 10 (by decide)) (hd 4 (by decide))⟩
      · refine LY7.ends ?_; intro x50 x51 x52 x53 x54 x55 x56 x57 x58 x59 x60 x61 x62 L W hall hI
        have hx0 := hI.p0 (hall 0 (by decide))
        subst hx0
        have hx1 := hI.p1 (hall 1 (by decide))
        subst hx1
        have hx2 := hI.p2 (hall 2 (by decide))
        subst hx2
        have hx3 := hI.p3 (hall 3 (by decide))
        subst hx3
        have hx4 := hI.p4 (hall 4 (by decide))
        subst hx4
        have hx5 := hI.p5 (hall 5 (by decide))
        subst hx5
        have hx6 := hI.p6 (hall 6 (by decide))
        subst hx6
        have hx7 := hI.p7 (hall 7 (by decide))
        subst hx7
        have hx8 := hI.p8 (hall 8 (by decide))
        subst hx8
        have hx11 := hI.p11 (hall 11 (by decide))
        subst hx11
        have hx12 := hI.p12 (hall 12 (by decide))
        subst hx12
        have hXe := hI.x
        rw [hall 9 (by decide)] at hXe
        rw [hall 10 (by decide)] at hXe
        rw [hall 13 (by decide)] at hXe
        clear hI hall
        try dsimp only
        go_wp2
        go_ret
        exact FIN.out W _ _ hXe
end Go.Proofs.YtpcgkjngpdplmaaGreatDoor
