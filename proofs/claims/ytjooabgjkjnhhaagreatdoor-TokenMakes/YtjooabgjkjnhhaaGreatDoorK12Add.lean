import Derived.Test.YtjooabgjkjnhhaaGreatDoorT24J
import Derived.Test.YtjooabgjkjnhhaaGreatDoorK12Ref2
import Derived.Test.YtjooabgjkjnhhaaGreatDoorK12Map
import Derived.Test.YtjooabgjkjnhhaaGreatDoorK12New
import Derived.Test.YtjooabgjkjnhhaaGreatDoorOpenA
import Derived.Laws.MakeOwn
import Derived.Laws.CopyOwn
import Derived.Lib.LazyBuf
import Derived.Test.YtjooabgjkjnhhaaGreatDoorI11Inv

/-! Two hashes held against each other; the reference's Check. -/
namespace Go.Proofs.YtjooabgjkjnhhaaGreatDoor
open Go.RowKit
set_option linter.unusedVariables false

end Go.Proofs.YtjooabgjkjnhhaaGreatDoor


/-! Slices of numbers of one's own; the reference's Numbers. -/
namespace Go.Proofs.YtjooabgjkjnhhaaGreatDoor
open Go.RowKit
set_option linter.unusedVariables false

end Go.Proofs.YtjooabgjkjnhhaaGreatDoor


/-! The code's ring in memory; its Has. (Over a stand-in: a map of bytes by number.) -/
namespace Go.Proofs.YtjooabgjkjnhhaaGreatDoor
open Go.RowKit
set_option linter.unusedVariables false

theorem kmT : MpT 79 23 (.slice none 0 0) := ⟨Tryz.underlying79, fun w => by kernel_rfl⟩

/-- The code's ring, in blocks from N on and below M. -/
structure KgO (N M : Nat) (w : World) (g b : Nat) (vs : List Value) (l : Secs) : Prop where
  row : Row w g 81 [.map (some b)]
  mp : MpAt w b (kvs l vs)
  len : vs.length = l.length
  lo : N ≤ g ∧ g < M ∧ N ≤ b ∧ b < M
  sz : M ≤ w.heap.size
  bytes : ∀ i, i < l.length → ∃ q c, vs.getD i undef = .slice (some ⟨q, 0, none⟩) (l.getD i (0, [])).2.length c ∧ IsB w (some ⟨q, 0, none⟩) (l.getD i (0, [])).2 ∧ (l.getD i (0, [])).2.length ≤ c ∧ N ≤ q ∧ q < M
theorem IsB.of_block {w w' : World} {q off : Nat} {m : List By} (h : IsB w (some ⟨q, off, none⟩) m) (hb : w'.heap[q]? = w.heap[q]?) : IsB w' (some ⟨q, off, none⟩) m := by
  rcases h with rfl | ⟨B, o, e, hc⟩
  · exact .inl rfl
  · injection e with e
    injection e with e1 e2
    subst e1 e2
    exact .inr ⟨q, off, rfl, fun j v hj => (World.cell?_of_block (w := w) (by exact hb)).trans (hc j v hj)⟩
theorem KgO.keep {N M : Nat} {w w' : World} {g b : Nat} {vs : List Value} {l : Secs} (h : KgO N M w g b vs l) (hz : w.heap.size ≤ w'.heap.size) (hb : ∀ j, N ≤ j → j < M → w'.heap[j]? = w.heap[j]?) : KgO N M w' g b vs l where
  row := (hb g h.lo.1 h.lo.2.1).trans h.row
  mp := h.mp.of_block (hb b h.lo.2.2.1 h.lo.2.2.2)
  len := h.len
  lo := h.lo
  sz := Nat.le_trans h.sz hz
  bytes i hi := by
    obtain ⟨q, c, e, h1, h2, h3, h4⟩ := h.bytes i hi
    exact ⟨q, c, e, h1.of_block (hb q h3 h4), h2, h3, h4⟩
theorem KgO.below {N M : Nat} {w w' : World} {g b : Nat} {vs : List Value} {l : Secs} (h : KgO N M w g b vs l) (hb : Below w.heap.size w w') : KgO N M w' g b vs l :=
  h.keep hb.size fun j _ hj => hb.block j (Nat.lt_of_lt_of_le hj h.sz)

set_option maxHeartbeats 1000000 in
set_option maxRecDepth 100000 in
theorem chas_any {N M : Nat} {w : World} {g b : Nat} {vs : List Value} {l : Secs} (h : KgO N M w g b vs l) (key : Int) :
    Calls Tryz.prog 28 #[.pointer (some ⟨g, 0, none⟩), .int .i64 key] w fun e w' => e = .returned (.bool (fnd l key).isSome) ∧ w' = w := by
  have h0 := h.row.cell 0 _ rfl
  cases hf : fnd l key with
  | none =>
    have q := look_none kmT h.mp key (kvs_none key l vs h.len (by rw [hf]; rfl))
    clear h hf
    go_enter Tryz.func28, Tryz.ntmps28
    go_wp2
    go_ret
    exact ⟨rfl, rfl⟩
  | some i =>
    have q := look_some kmT h.mp key (vs.getD i undef) (by rw [kvs_find key l vs h.len, hf]; rfl)
    clear h hf
    generalize vs.getD i undef = v at q
    go_enter Tryz.func28, Tryz.ntmps28
    go_wp2
    go_ret
    exact ⟨rfl, rfl⟩

/-- What New answers. -/
def CNewPost (l : Secs) (w : World) (e : Ending) (w' : World) : Prop := Below w.heap.size w w' ∧ ((∃ (er : Int) (i : Nat), newE l = some (er, i) ∧ e = .returned (.tuple #[.pointer none, .int .i64 er, .int .i64 i])) ∨
  newE l = none ∧ ∃ g b vs, e = .returned (.tuple #[.pointer (some ⟨g, 0, none⟩), .int .i64 0, .int .i64 0]) ∧ KgO w.heap.size w'.heap.size w' g b vs l)

end Go.Proofs.YtjooabgjkjnhhaaGreatDoor


/-! A row of bytes that is made and copied into. (The same as in I11Tool, without image.) -/
namespace Go.Proofs.YtjooabgjkjnhhaaGreatDoor
open Go.RowKit
set_option linter.unusedVariables false

theorem wpList_make_rowN {ops : Array Oper} {rest : List Oper} {o : Oper} {a : Act} {w : World} {Q : Exit → Act → World → Prop} (hg : o.guard = none) (l c : Operand) (hop : o.op = Op.makeSlice 23 l c)
    (kl kc : IntKind) (L C : Int) (n : Nat) (hl : a.eval l = .int kl L) (hc : a.eval c = .int kc C) (hL : L = (n : Int)) (hC : C = (n : Int)) (hn : n ≤ 281474976710656)
    (hK : ∀ w', Row w' w.heap.size 5 ((List.replicate n (0 : By)).map B8) → Below w.heap.size w w' → w'.heap.size = w.heap.size + 1 → wpList Tryz.prog ops Q rest (a.put o.dst (.slice (some ⟨w.heap.size, 0, none⟩) n n)) w') :
    wpList Tryz.prog ops Q (o :: rest) a w := by
  obtain ⟨i0, hi, hz0, hz1, hz2⟩ := info_parts Tryz.info5
  refine wpList_plain hg fun K hK' => ?_
  subst hL
  subst hC
  have hrun := run_make (P := Tryz.prog) w 23 5 i0 (.int .u8 0) Tryz.underlying23 hi hz0 kl kc (n : Int) (n : Int) (by omega) (by omega) (by rw [hz2]; omega) (by omega)
  unfold Oper.wp
  simp [execOp, hop, hl, hc, hrun, Result.andThen]
  refine hK' _ _ (hK _ ?_ ?_ (by simp))
  · refine Row.at w 5 _ _ _ rfl ?_
    rw [hz1, Nat.mul_one]
    have : (madeCells #[Value.int .u8 0] n).toList = (List.replicate n (0 : By)).map B8 := by
      rw [toList_madeCells_one]; simp [B8]
    rw [← this]; rfl
  · exact (Below.refl _ _).alloc (Nat.le_refl _) _

/-- A row of bytes that lies above N is the call's own. -/
theorem own_row {N : Nat} {w : World} {g : Nat} {m : List By} (h : Row w g 5 (m.map B8)) (hg : N ≤ g) (n : Nat) (hn : m.length = n) (hm : n ≤ 140737488355328) : Own N w (.slice (some ⟨g, 0, none⟩) n n) m := by
  have hl := h.lt
  subst hn
  refine ⟨⟨by simp, .inr ⟨g, m.length, (m.map B8).toArray, rfl, hg, h, Nat.le_refl _, by unfold maxLen; omega, by simp, ?_⟩⟩, by omega⟩
  simp
  exact List.take_of_length_le (by simp)

/-- 'copy' of all bytes of a slice into a row, from place 'od' on. -/
theorem run_copy_to (w : World) (ty D od dLen dCap : Nat) (bo : Option Addr) (n cap : Nat) (hle : n ≤ dLen) (m : List By) (hr : Row w D 5 (m.map B8)) (b : List By) (hb0 : b.length = n) (hb : IsB w bo b) (hfit : od + n ≤ m.length) :
    ∃ w', (Builtin.copy_ #[23, 23] ty #[.slice (some ⟨D, od, none⟩) dLen dCap, .slice bo n cap]).run Tryz.prog w = .ok (.int .i64 (n : Int)) w' ∧ Row w' D 5 ((splice m od b).map B8) ∧ SameBut D w w' := by
  by_cases h0 : n = 0
  · have hbn : b = [] := List.eq_nil_of_length_eq_zero (by rw [hb0]; exact h0)
    subst hbn
    subst h0
    refine ⟨w, run_copy_none (P := Tryz.prog) w 23 23 ty 5 (some ⟨D, od, none⟩) bo dLen dCap 0 cap Tryz.underlying23 (by kernel_rfl) (by exact Nat.zero_min _), ?_, SameBut.refl _ _⟩
    simpa [splice] using hr
  · rcases hb with rfl | ⟨B, off, rfl, hc⟩
    · simp at hb0; omega
    · have hth := hr.there od n (by simpa using hfit)
      have hrun := run_copy_cells (P := Tryz.prog) w 23 23 ty 5 D od dLen dCap ⟨B, off, none⟩ n cap (b.map B8) Tryz.underlying23 (by kernel_rfl) (by rw [List.length_map, hb0]; exact (Nat.min_eq_left hle).symm)
        (by
          intro j v hv
          rw [Addr.add_mid]
          rw [List.getElem?_map] at hv
          cases hj : b[j]? with
          | none => rw [hj] at hv; cases hv
          | some x => rw [hj] at hv; injection hv with hv; subst hv; exact hc j x hj)
        (fun j hj => (hth j (by rw [List.length_map, hb0] at hj; exact hj)).1) (fun j hj => (hth j (by rw [List.length_map, hb0] at hj; exact hj)).2) (B8_one b)
      rw [List.length_map, hb0] at hrun
      refine ⟨_, hrun, ?_, SameBut.setCells D _ od w⟩
      have := Row.setCells (b.map B8) od w (m.map B8) hr (by rw [List.length_map, List.length_map, hb0]; exact hfit)
      simpa [splice, hb0, List.map_take, List.map_drop] using this
theorem wpList_copy_to {ops : Array Oper} {rest : List Oper} {o : Oper} {a : Act} {w : World} {Q : Exit → Act → World → Prop} (hgd : o.guard = none) (d s : Operand)
    (ho : o.op = .call { callee := .builtin .copy, args := #[d, s], argTypes := #[23, 23] })
    (D od dLen dCap : Nat) (bo : Option Addr) (n cap : Nat) (hd : a.eval d = .slice (some ⟨D, od, none⟩) dLen dCap) (hs : a.eval s = .slice bo n cap) (hle : n ≤ dLen) (m : List By) (hr : Row w D 5 (m.map B8)) (b : List By) (hb0 : b.length = n) (hb : IsB w bo b) (hfit : od + n ≤ m.length)
    (h : ∀ w', Row w' D 5 ((splice m od b).map B8) → SameBut D w w' → wpList Tryz.prog ops Q rest (a.put o.dst (.int .i64 (n : Int))) w') : wpList Tryz.prog ops Q (o :: rest) a w := by
  refine wpList_plain hgd fun K hK => ?_
  obtain ⟨w', hrun, h1, h2⟩ := run_copy_to w o.type D od dLen dCap bo n cap hle m hr b hb0 hb hfit
  unfold Oper.wp
  simp [execOp, ho, resolve, invoke, builtin, hd, hs, hrun, Result.andThen]
  exact hK _ _ (h w' h1 h2)
theorem splice_all (m b : List By) (h : b.length = m.length) : splice m 0 b = b := by
  unfold splice
  simp [h]
end Go.Proofs.YtjooabgjkjnhhaaGreatDoor


/-! THE CODE'S add: one more secret taken in, or what is wrong with it. (Printed by tools/gencadd12.py.) -/
namespace Go.Proofs.YtjooabgjkjnhhaaGreatDoor
open Go.RowKit
set_option linter.unusedVariables false

/-- The code's ring while it is made. -/
structure KgC (N : Nat) (w : World) (g b : Nat) (vs : List Value) (l : Secs) : Prop where
  row : Row w g 81 [.map (some b)]
  mp : MpAt w b (kvs l vs)
  len : vs.length = l.length
  lo : N ≤ g ∧ N ≤ b
  bytes : ∀ i, i < l.length → ∃ q c, vs.getD i undef = .slice (some ⟨q, 0, none⟩) (l.getD i (0, [])).2.length c ∧ Own N w (.slice (some ⟨q, 0, none⟩) (l.getD i (0, [])).2.length c) (l.getD i (0, [])).2
theorem KgC.to {N : Nat} {w : World} {g b : Nat} {vs : List Value} {l : Secs} (h : KgC N w g b vs l) : KgO N w.heap.size w g b vs l :=
  ⟨h.row, h.mp, h.len, ⟨h.lo.1, h.row.lt, h.lo.2, h.mp.lt⟩, Nat.le_refl _, fun i hi => by
    obtain ⟨q, c, e, ho⟩ := h.bytes i hi
    exact ⟨q, c, e, own_IsB ho, own_cap ho, ho.lt.1, ho.lt.2⟩⟩
theorem KgC.keep {N : Nat} {w w' : World} {g b : Nat} {vs : List Value} {l : Secs} (h : KgC N w g b vs l) (hb : Below w.heap.size w w') : KgC N w' g b vs l :=
  ⟨h.row.below hb h.row.lt, h.mp.of_block (hb.block b h.mp.lt), h.len, h.lo, fun i hi => by
    obtain ⟨q, c, e, ho⟩ := h.bytes i hi
    exact ⟨q, c, e, ho.keep hb⟩⟩
theorem KgC.new (N : Nat) (w : World) (hN : N ≤ w.heap.size) : KgC N ((w.alloc (.map #[] 0)).alloc (.cells #[.map (some w.heap.size)] 81)) (w.heap.size + 1) w.heap.size [] [] :=
  ⟨Row.at _ _ _ _ _ (by simp) rfl, (MpAt.new w).of_block (Below.heap_alloc _ _ _ (by simp)), rfl, ⟨by omega, hN⟩, fun i hi => absurd hi (by simp)⟩
theorem KgC.push {N : Nat} {w w2 : World} {g b : Nat} {vs : List Value} {l : Secs} (h : KgC N w g b vs l) (k : Int) (bs : List By) (q c : Nat) (ho : Own N w (.slice (some ⟨q, 0, none⟩) bs.length c) bs) (hm : MpAt w2 b (kvs l vs ++ [(k, .slice (some ⟨q, 0, none⟩) bs.length c)])) (hs : SameBut b w w2) : KgC N w2 g b (vs ++ [.slice (some ⟨q, 0, none⟩) bs.length c]) (l ++ [(k, bs)]) := by
  have hne : ∀ (q n c : Nat) (m : List By), Own N w (.slice (some ⟨q, 0, none⟩) n c) m → q ≠ b := by
    intro q n c m ho e
    subst e
    obtain ⟨cur, hc⟩ := owns_ty ho.1 q rfl
    obtain ⟨es, clock, hb, _⟩ := h.mp
    rw [hc] at hb; cases hb
  have hof : ∀ (q n c : Nat) (m : List By), Own N w (.slice (some ⟨q, 0, none⟩) n c) m → Own N w2 (.slice (some ⟨q, 0, none⟩) n c) m := fun q n c m ho => ho.but hs (fun e => by injection e with e; injection e with e; exact hne q n c m ho e)
  refine ⟨h.row.but hs (h.mp.notRow h.row), by rw [kvs_push _ _ _ _ _ h.len]; exact hm, by simp [h.len], h.lo, fun i hi => ?_⟩
  rw [List.length_append, List.length_singleton] at hi
  rcases Nat.lt_or_ge i l.length with h3 | h3
  · obtain ⟨q2, c2, e2, ho2⟩ := h.bytes i h3
    have e3 : (l ++ [(k, bs)]).getD i (0, []) = l.getD i (0, []) := by simp [List.getD_eq_getElem?_getD, List.getElem?_append_left h3]
    have e4 : (vs ++ [Value.slice (some ⟨q, 0, none⟩) bs.length c]).getD i undef = vs.getD i undef := by simp [List.getD_eq_getElem?_getD, List.getElem?_append_left (show i < vs.length by rw [h.len]; exact h3)]
    rw [e3, e4]
    exact ⟨q2, c2, e2, hof _ _ _ _ ho2⟩
  · obtain rfl : i = l.length := by omega
    have e3 : (l ++ [(k, bs)]).getD l.length (0, []) = (k, bs) := by simp [List.getD_eq_getElem?_getD]
    have e4 : (vs ++ [Value.slice (some ⟨q, 0, none⟩) bs.length c]).getD l.length undef = .slice (some ⟨q, 0, none⟩) bs.length c := by rw [← h.len]; simp [List.getD_eq_getElem?_getD]
    rw [e3, e4]
    exact ⟨q, c, rfl, hof _ _ _ _ ho⟩

/-- A new key at a step of a drawn region. -/
theorem step_update_new {T e : TypeId} {z : Value} (M : MpT T e z) {ops : Array Oper} {o : Oper} {a : Act} {w : World} {K : Act → World → Prop} {Q : Exit → Act → World → Prop} {X : Prop} (hgd : o.guard = none) (m x y : Operand) (ho : o.op = .mapUpdate T m x y)
    (b : Nat) (ks : List (Int × Value)) (key : Int) (v : Value) (hm : a.eval m = .map (some b)) (hx : a.eval x = .int .i64 key) (hy : a.eval y = v) (h : MpAt w b ks) (hf : ks.find? (fun p => p.1 == key) = none)
    (hK : ∀ w', MpAt w' b (ks ++ [(key, v)]) → SameBut b w w' → K (a.put o.dst undef) w') : if Region.wanted o (yielded ops a.tmps) = true then Oper.wp Tryz.prog o a w K Q else X := by
  have hw : Region.wanted o (yielded ops a.tmps) = true := by simp [Region.wanted, hgd]
  rw [if_pos hw]
  obtain ⟨w', hrun, h2, h3⟩ := update_new M h key v hf
  unfold Oper.wp
  simp [execOp, ho, hm, hx, hy, hrun, Result.andThen]
  exact hK w' h2 h3

/-- While a secret is laid into the map. -/
structure CX (N : Nat) (W0 : World) (g b : Nat) (vs : List Value) (l : Secs) (k : Int) (bs : List By) (l7 : Bool) (W : World) : Prop where
  bel : Below N W0 W
  oth : ∀ j, j < W0.heap.size → j ≠ b → W.heap[j]? = W0.heap[j]?
  pre : l7 = false → Below W0.heap.size W0 W
  p7 : l7 = true → ∃ vs', KgC N W g b vs' (l ++ [(k, bs)])
section
variable {N : Nat} {W0 : World} {g b : Nat} {vs : List Value} {l : Secs} {k : Int} {bs : List By} {l7 : Bool} {W W2 : World}
theorem CX.zero (N : Nat) (W0 : World) (g b : Nat) (vs : List Value) (l : Secs) (k : Int) (bs : List By) : CX N W0 g b vs l k bs false W0.drew :=
  ⟨(Below.refl _ _).drew, fun _ _ _ => rfl, fun _ => (Below.refl _ _).drew, fun h => (by cases h)⟩
theorem CX.s7 (h : CX N W0 g b vs l k bs l7 W) (h0 : KgC N W0 g b vs l) (h7 : l7 = false) {q c : Nat} (ho : Own N W0 (.slice (some ⟨q, 0, none⟩) bs.length c) bs) (hm : MpAt W2 b (kvs l vs ++ [(k, .slice (some ⟨q, 0, none⟩) bs.length c)])) (hs : SameBut b W W2) : CX N W0 g b vs l k bs true W2 :=
  ⟨hs.below h.bel h0.lo.2, fun j h1 h2 => (hs.block j h2).trans (h.oth j h1 h2), fun h => (by cases h), fun _ => ⟨_, (h0.keep (h.pre h7)).push k bs q c (ho.keep (h.pre h7)) hm hs⟩⟩
end

structure N9 (W1 : World) (N : Nat) (g b : Nat) (vs : List Value) (l : Secs) (k : Int) (bs : List By) (S q : Nat) (L : Nat → Bool) (x36 x37 x38 x39 x40 x41 x42 : Value) (W : World) : Prop where
  x : CX N W1 g b vs l k bs (L 7) W
  p0 : L 0 = true → x36 = .pointer (some ⟨g, 0, none⟩)
  p1 : L 1 = true → x37 = .pointer (some ⟨g, 0, none⟩)
  p2 : L 2 = true → x38 = .pointer (some ⟨g, 0, none⟩)
  p3 : L 3 = true → x39 = .map (some b)
  p4 : L 4 = true → x40 = .pointer (some ⟨S, 0, none⟩)
  p5 : L 5 = true → x41 = .int .i64 k
  p6 : L 6 = true → x42 = .slice (some ⟨q, 0, none⟩) bs.length bs.length
section
variable {W1 : World} {N : Nat} {g b : Nat} {vs : List Value} {l : Secs} {k : Int} {bs : List By} {S q : Nat} {L : Nat → Bool} {x36 x37 x38 x39 x40 x41 x42 : Value} {W W2 : World}
theorem N9.s0 (h : N9 W1 N g b vs l k bs S q L x36 x37 x38 x39 x40 x41 x42 W) : N9 W1 N g b vs l k bs S q (upd L 0) (.pointer (some ⟨g, 0, none⟩)) x37 x38 x39 x40 x41 x42 W :=
  ⟨h.x, fun _ => rfl, h.p1, h.p2, h.p3, h.p4, h.p5, h.p6⟩
theorem N9.s1 (h : N9 W1 N g b vs l k bs S q L x36 x37 x38 x39 x40 x41 x42 W) : N9 W1 N g b vs l k bs S q (upd L 1) x36 (.pointer (some ⟨g, 0, none⟩)) x38 x39 x40 x41 x42 W :=
  ⟨h.x, h.p0, fun _ => rfl, h.p2, h.p3, h.p4, h.p5, h.p6⟩
theorem N9.s7 (h : N9 W1 N g b vs l k bs S q L x36 x37 x38 x39 x40 x41 x42 W) (hX : CX N W1 g b vs l k bs ((upd L 7) 7) W2) : N9 W1 N g b vs l k bs S q (upd L 7) x36 x37 x38 x39 x40 x41 x42 W2 :=
  ⟨hX, h.p0, h.p1, h.p2, h.p3, h.p4, h.p5, h.p6⟩
end
@[reducible] def IN9 (W1 : World) (N : Nat) (g b : Nat) (vs : List Value) (l : Secs) (k : Int) (bs : List By) (S q : Nat) (y0 y1 y2 y3 y4 y5 y6 y7 y8 y9 y10 y11 y12 y13 y14 y15 y16 y17 y18 y19 y20 y21 y22 y23 y24 y25 y26 y27 y28 y29 y30 y31 y32 y33 y34 y35 : Value) : (Nat → Bool) → Act → World → Prop := fun L a W => ∃ x36 x37 x38 x39 x40 x41 x42, a = ⟨#[y0, y1, y2, y3, y4, y5, y6, y7, y8, y9, y10, y11, y12, y13, y14, y15, y16, y17, y18, y19, y20, y21, y22, y23, y24, y25, y26, y27, y28, y29, y30, y31, y32, y33, y34, y35, x36, x37, x38, x39, x40, x41, x42], []⟩ ∧ N9 W1 N g b vs l k bs S q L x36 x37 x38 x39 x40 x41 x42 W
/-- What is wrong with a secret. -/
def addE (l : Secs) (kk : Int) (bs : List By) : Option Int := if kk < 0 ∨ 63 < kk then some 2 else if bs.length < 1 ∨ 256 < bs.length then some 4 else if (fnd l kk).isSome then some 18 else none
/-- What add answers. -/
def CAddPost (N g b : Nat) (l : Secs) (kk : Int) (bs : List By) (w : World) (e : Ending) (w' : World) : Prop := Below N w w' ∧ ((∃ er : Int, er ≠ 0 ∧ addE l kk bs = some er ∧ e = .returned (.int .i64 er)) ∨ addE l kk bs = none ∧ e = .returned (.int .i64 0) ∧ ∃ vs, KgC N w' g b vs (l ++ [(kk, bs)]))
/-- What stands in memory behind add's first step. -/
def AddIn (N : Nat) (w W : World) (g b : Nat) (vs : List Value) (l : Secs) (kk : Int) (bo : Option Addr) (bs : List By) (bc : Nat) : Prop := KgC N W g b vs l ∧ Row W w.heap.size 57 [.int .i64 kk, .slice bo bs.length bc] ∧ Below w.heap.size w W ∧ IsB W bo bs

set_option maxHeartbeats 1000000 in
set_option maxRecDepth 100000 in
theorem cadd_any {N : Nat} {w : World} {g b : Nat} {vs : List Value} {l : Secs} (h : KgC N w g b vs l) (hN : N ≤ w.heap.size) (kk : Int) (bo : Option Addr) (bc : Nat) (bs : List By) (hb : IsB w bo bs) :
    Calls Tryz.prog 26 #[.pointer (some ⟨g, 0, none⟩), .agg #[.int .i64 kk, .slice bo bs.length bc]] w (CAddPost N g b l kk bs w) := by
  have bw : Below w.heap.size w (w.alloc (.cells #[.int .i64 kk, .slice bo bs.length bc] 57)) := (Below.refl _ _).alloc (Nat.le_refl _) _
  have r0 : Row (w.alloc (.cells #[.int .i64 kk, .slice bo bs.length bc] 57)) w.heap.size 57 [.int .i64 kk, .slice bo bs.length bc] := Row.at w _ _ _ _ rfl rfl
  have c0 := r0.cell 0 _ rfl
  have c1 := r0.cell 1 _ rfl
  have BW : Hid (Below N w (w.alloc (.cells #[.int .i64 kk, .slice bo bs.length bc] 57))) := bw.mono hN
  have HN : Hid (N ≤ w.heap.size) := hN
  have AI : Hid (AddIn N w (w.alloc (.cells #[.int .i64 kk, .slice bo bs.length bc] 57)) g b vs l kk bo bs bc) := ⟨h.keep bw, r0, bw, hb.below bw (Nat.le_refl _)⟩
  clear h hb bw r0 hN
  by_cases hk0 : kk < 0
  · have HS : Hid (addE l kk bs = some 2) := if_pos (.inl hk0)
    go_enter Tryz.func26, Tryz.ntmps26
    go_wp2
    go_ret
    exact ⟨BW.out, .inl ⟨2, by decide, HS.out, rfl⟩⟩
  by_cases hk1 : 63 < kk
  · have HS : Hid (addE l kk bs = some 2) := if_pos (.inr hk1)
    have hk2 : (64 : Int) ≤ kk := by omega
    go_enter Tryz.func26, Tryz.ntmps26
    go_wp2
    go_ret
    exact ⟨BW.out, .inl ⟨2, by decide, HS.out, rfl⟩⟩
  have hk2 : ¬ (64 : Int) ≤ kk := by omega
  have HS2 : Hid (addE l kk bs = if bs.length < 1 ∨ 256 < bs.length then some 4 else if (fnd l kk).isSome then some 18 else none) := if_neg (by omega)
  by_cases hb0 : bs.length < 1
  · have HS : Hid (addE l kk bs = some 4) := HS2.out.trans (if_pos (.inl hb0))
    have z1 : ((bs.length : Nat) : Int) < 1 := by omega
    clear hb0 HS2
    go_enter Tryz.func26, Tryz.ntmps26
    go_wp2
    go_ret
    exact ⟨BW.out, .inl ⟨4, by decide, HS.out, rfl⟩⟩
  have z1 : ¬ ((bs.length : Nat) : Int) < 1 := by omega
  by_cases hb1 : 256 < bs.length
  · have HS : Hid (addE l kk bs = some 4) := HS2.out.trans (if_pos (.inr hb1))
    have z2 : (256 : Int) < ((bs.length : Nat) : Int) := by omega
    clear hb0 hb1 HS2
    go_enter Tryz.func26, Tryz.ntmps26
    go_wp2
    go_ret
    exact ⟨BW.out, .inl ⟨4, by decide, HS.out, rfl⟩⟩
  have z2 : ¬ (256 : Int) < ((bs.length : Nat) : Int) := by omega
  have HS3 : Hid (addE l kk bs = if (fnd l kk).isSome then some 18 else none) := HS2.out.trans (if_neg (by omega))
  have HLEN : Hid (bs.length ≤ 256) := (by omega : bs.length ≤ 256)
  clear hb0 hb1 HS2
  have HAS : Hid (Calls Tryz.prog 28 #[.pointer (some ⟨g, 0, none⟩), .int .i64 kk] (w.alloc (.cells #[.int .i64 kk, .slice bo bs.length bc] 57)) fun e w' => e = .returned (.bool (fnd l kk).isSome) ∧ w' = w.alloc (.cells #[.int .i64 kk, .slice bo bs.length bc] 57)) := chas_any AI.out.1.to kk
  go_enter Tryz.func26, Tryz.ntmps26
  go_wp2_with fail
  refine HAS.out.mono ?_
  rintro e W0 ⟨rfl, hW⟩
  dsimp only
  have AJ : Hid (AddIn N w W0 g b vs l kk bo bs bc) := by rw [hW]; exact AI.out
  clear HAS AI BW c0 c1 hW
  cases hs : (fnd l kk).isSome with
  | true =>
    have HS : Hid (addE l kk bs = some 18) := by show _ = _; rw [HS3.out, hs]; rfl
    clear hs HS3
    go_wp2
    go_ret
    exact ⟨AJ.out.2.2.1.mono HN.out, .inl ⟨18, by decide, HS.out, rfl⟩⟩
  | false =>
    have HS : Hid (addE l kk bs = none) := by show _ = _; rw [HS3.out, hs]; rfl
    obtain ⟨hro, r4, hbw, hbb⟩ := AJ.out
    have c1 := r4.cell 1 _ rfl
    have HF : Hid ((kvs l vs).find? (fun p => p.1 == kk) = none) := kvs_none kk _ _ hro.len hs
    have HRO : Hid (KgC N W0 g b vs l) := hro
    have HBB : Hid (IsB W0 bo bs) := hbb
    have HBW : Hid (Below N w W0) := hbw.mono HN.out
    have HNW : Hid (N ≤ W0.heap.size) := Nat.le_trans HN.out hbw.size
    clear hs HS3 AJ hro hbb hbw
    have hlen : bs.length ≤ 281474976710656 := by have := HLEN.out; omega
    go_wp2_with (first
      | (refine wpList_make_rowN rfl _ _ rfl .i64 .i64 _ _ bs.length rfl rfl rfl rfl hlen ?_; intro w2 hr2 hb2 hz2; have c12 := (r4.below hb2 r4.lt).cell 1 _ rfl)
      | (refine wpList_copy_to rfl (.tmp 32) (.tmp 34) rfl W0.heap.size 0 bs.length bs.length bo bs.length bc rfl rfl (Nat.le_refl _) (List.replicate bs.length 0) hr2 bs rfl (HBB.out.below hb2 (Nat.le_refl _)) (by simp) ?_; intro w3 hr3 hs3))
    rw [splice_all _ _ (by simp)] at hr3
    have hb3 : Below W0.heap.size W0 w3 := hs3.below hb2 (Nat.le_refl _)
    have HO : Hid (Own N w3 (.slice (some ⟨W0.heap.size, 0, none⟩) bs.length bs.length) bs) := own_row hr3 HNW.out _ rfl (by have := HLEN.out; omega)
    have hro := HRO.out.keep hb3
    have HR : Hid (KgC N w3 g b vs l) := hro
    have r5 := r4.below hb3 r4.lt
    have hSb : w.heap.size ≠ b := hro.mp.notRow r5
    have hgb : g ≠ b := hro.mp.notRow hro.row
    have HB3 : Hid (Below N w w3) := HBW.out.trans (hb3.mono HNW.out)
    have HRW : Hid (∀ W : World, (∀ j, j < w3.heap.size → j ≠ b → W.heap[j]? = w3.heap[j]?) → W.cell? ⟨g, 0, none⟩ = some (.map (some b))) := fun W h => (World.cell?_of_block (w := w3) (h _ hro.row.lt hgb)).trans (hro.row.cell 0 _ rfl)
    have HS0 : Hid (∀ W : World, (∀ j, j < w3.heap.size → j ≠ b → W.heap[j]? = w3.heap[j]?) → W.cell? ⟨w.heap.size, 0, none⟩ = some (.int .i64 kk)) := fun W h => (World.cell?_of_block (w := w3) (h _ r5.lt hSb)).trans (r5.cell 0 _ rfl)
    clear hro r5 r4 hr2 hr3 hb2 hb3 hs3 hz2 c1 c12 HRO HBB HBW HNW hlen z1 z2 hk0 hk1 hk2
    refine wp_region_inv (IN9 w3 N g b vs l kk bs w.heap.size W0.heap.size _ _ _ _ _ _ _ _ _ _ _ _ _ _ _ _ _ _ _ _ _ _ _ _ _ _ _ _ _ _ _ _ _ _ _ _) (by kernel_rfl) (by kernel_rfl) ⟨_, _, _, _, _, _, _, rfl, ⟨CX.zero _ _ _ _ _ _ _ _, fun k => (by cases k), fun k => (by cases k), fun k => (by cases k), fun k => (by cases k), fun k => (by cases k), fun k => (by cases k), fun k => (by cases k)⟩⟩ ?_ ?_
    · refine .cons ?_ (.cons ?_ (.cons ?_ (.cons ?_ (.cons ?_ (.cons ?_ (.cons ?_ (.cons ?_ .nil)))))))
      all_goals (rintro L _ W ⟨x36, x37, x38, x39, x40, x41, x42, rfl, hI⟩ hL hd K hK)
      · rw [if_pos (by rfl)]
        go_simp
        exact hK.out _ _ ⟨_, _, _, _, _, _, _, rfl, { hI with p0 := fun _ => rfl }⟩
      · obtain rfl := hI.p0 (hd 0 (by decide))
        rw [if_pos (by rfl)]
        go_simp
        exact hK.out _ _ ⟨_, _, _, _, _, _, _, rfl, { hI with p1 := fun _ => rfl }⟩
      · obtain rfl := hI.p1 (hd 1 (by decide))
        rw [if_pos (by rfl)]
        go_simp
        exact hK.out _ _ ⟨_, _, _, _, _, _, _, rfl, { hI with p2 := fun _ => rfl }⟩
      · obtain rfl := hI.p2 (hd 2 (by decide))
        rw [if_pos (by rfl)]
        have hc := HRW.out _ hI.x.oth
        go_simp
        exact hK.out _ _ ⟨_, _, _, _, _, _, _, rfl, { hI with p3 := fun _ => rfl }⟩
      · rw [if_pos (by rfl)]
        go_simp
        exact hK.out _ _ ⟨_, _, _, _, _, _, _, rfl, { hI with p4 := fun _ => rfl }⟩
      · obtain rfl := hI.p4 (hd 4 (by decide))
        rw [if_pos (by rfl)]
        have hc := HS0.out _ hI.x.oth
        go_simp
        exact hK.out _ _ ⟨_, _, _, _, _, _, _, rfl, { hI with p5 := fun _ => rfl }⟩
      · rw [if_pos (by rfl)]
        go_simp
        exact hK.out _ _ ⟨_, _, _, _, _, _, _, rfl, { hI with p6 := fun _ => rfl }⟩
      · obtain rfl := hI.p3 (hd 3 (by decide))
        obtain rfl := hI.p5 (hd 5 (by decide))
        obtain rfl := hI.p6 (hd 6 (by decide))
        have mp9 := (HR.out.keep (hI.x.pre hL)).mp
        refine step_update_new kmT rfl (.tmp 39) (.tmp 41) (.tmp 42) rfl b _ kk _ rfl rfl rfl mp9 HF.out ?_
        intro W2 hm9 hs9
        have hX := hI.x.s7 HR.out hL HO.out hm9 hs9
        exact hK.out _ _ ⟨_, _, _, _, _, _, _, rfl, { hI with x := hX }⟩
    · rintro L _ W hall ⟨x36, x37, x38, x39, x40, x41, x42, rfl, hI⟩
      obtain rfl := hI.p0 (hall 0 (by decide))
      obtain rfl := hI.p1 (hall 1 (by decide))
      obtain rfl := hI.p2 (hall 2 (by decide))
      obtain rfl := hI.p3 (hall 3 (by decide))
      obtain rfl := hI.p4 (hall 4 (by decide))
      obtain rfl := hI.p5 (hall 5 (by decide))
      obtain rfl := hI.p6 (hall 6 (by decide))
      have hXe := hI.x
      rw [hall 7 (by decide)] at hXe
      clear hI hall
      try dsimp only
      have HXE : Hid (Below N w3 W ∧ ∃ vs', KgC N W g b vs' (l ++ [(kk, bs)])) := ⟨hXe.bel, hXe.p7 rfl⟩
      clear hXe HR HRW HS0
      go_wp2
      go_ret
      exact ⟨HB3.out.trans HXE.out.1, .inr ⟨HS.out, rfl, HXE.out.2⟩⟩
end Go.Proofs.YtjooabgjkjnhhaaGreatDoor
