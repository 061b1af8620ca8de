
import Derived.Test.YtplpoehfdhkhmaaDoorP25Xh
import Derived.Laws.MakeOwn
/-! PatchJoins: rows of bytes that the law makes; append of a row to rows; loads from the middle of a row. -/
namespace Go.Proofs.YtplpoehfdhkhmaaDoor
open Go.RowKit
set_option linter.unusedVariables false

theorem wpList_load_rng_g {ops : Array Oper} {rest : List Oper} {op : Oper} {a : Act} {w : World} {Q : Exit -> Act -> World -> Prop} (hw : Region.wanted op (yielded ops a.tmps) = true) (ty : TypeId) (x : Operand) (ho : op.op = .load ty x)
    (g off n : Nat) (cs : List Value) (hr : w.rangeAt g off cs) (hx : a.eval x = .pointer (some ⟨g, off, none⟩)) (d : TypeDesc) (hn : cs.length = n)
    (hu : Tryd.prog.underlying ty = some d) (hd : d.isRow = true) (hi : (Tryd.prog.info? ty).map (·.size) = some n)
    (h : wpList Tryd.prog ops Q rest (a.put op.dst (.agg cs.toArray)) w) : wpList Tryd.prog ops Q (op :: rest) a w := by
  refine wpList_step fun K hK => ?_
  rw [if_pos hw]
  exact wp_load_mid ty x ho g off hx _ d hr hu hd (by rw [hn]; exact hi) (hK _ _ h)

theorem made25 (n : Nat) : madeCells (Value.int .u8 0).cells n = ((List.replicate n (0 : By)).map B8).toArray := by
  unfold madeCells
  apply Array.ext
  · simp
  · intro i h1 h2
    simp [Value.cells, B8, Nat.mod_one]
theorem run_make25 (n : Nat) (hb : n <= 281474976710656) (w : World) :
    (Instr.makeSlice 23 (.int .i64 (n : Int)) (.int .i64 (n : Int))).run Tryd.prog w = .ok (.slice (some ⟨w.heap.size, 0, none⟩) n n) (w.alloc (.cells ((List.replicate n (0 : By)).map B8).toArray 5)) := by
  obtain ⟨i0, hi, hz1, hz2, hz3⟩ := info_parts (show (Tryd.prog.info? 5).map (fun i => (i.zero, i.size, i.bytes)) = some (some (.int .u8 0), 1, 1) by kernel_rfl)
  have hr := run_make (P := Tryd.prog) w 23 5 i0 (.int .u8 0) Tryd.underlying23 hi hz1 .i64 .i64 (n : Int) (n : Int) (by omega) (Int.le_refl _) (by rw [hz3]; omega) (by omega)
  rw [hz2, Int.toNat_natCast, Nat.mul_one, made25] at hr
  exact hr
theorem step_make25 {ops : Array Oper} {o : Oper} {a : Act} {w : World} {K : Act -> World -> Prop} {Q : Exit -> Act -> World -> Prop} {X : Prop} (hgd : o.guard = none) (x : Operand) (ho : o.op = .makeSlice 23 x x)
    (n : Nat) (hx : a.eval x = .int .i64 (n : Int)) (hb : n <= 281474976710656)
    (h : K (a.put o.dst (.slice (some ⟨w.heap.size, 0, none⟩) n n)) (w.alloc (.cells ((List.replicate n (0 : By)).map B8).toArray 5))) : if Region.wanted o (yielded ops a.tmps) = true then Oper.wp Tryd.prog o a w K Q else X := by
  have hw : Region.wanted o (yielded ops a.tmps) = true := by simp [Region.wanted, hgd]
  rw [if_pos hw]
  unfold Oper.wp execOp
  simp only [ho, hx, run_make25 n hb w, Sem.run_bind, Result.andThen_ok, Sem.run_pure]
  exact h

/-- Two rows of n bytes, each in a block of its own, and the row of both. -/
structure RLj (w : World) (n gA gB gR : Nat) (W : World) : Prop where
  bel : Below w.heap.size w W
  la : w.heap.size <= gA
  lb : w.heap.size <= gB
  lr : w.heap.size <= gR
  na : gA ≠ gR
  nb : gB ≠ gR
  ra : ∃ bs : List By, bs.length = n /\ Row W gA 5 (bs.map B8)
  rb : ∃ bs : List By, bs.length = n /\ Row W gB 5 (bs.map B8)
  rr : Row W gR 23 [.slice (some ⟨gA, 0, none⟩) n n, .slice (some ⟨gB, 0, none⟩) n n]
section
variable {w W W2 : World} {n gA gB gR : Nat}
theorem RLj.keep (h : RLj w n gA gB gR W) (hb : Below W.heap.size W W2) : RLj w n gA gB gR W2 := by
  obtain ⟨a, ha, ra⟩ := h.ra
  obtain ⟨b, hbb, rb⟩ := h.rb
  exact ⟨h.bel.trans (hb.mono h.bel.size), h.la, h.lb, h.lr, h.na, h.nb, ⟨a, ha, ra.below hb ra.lt⟩, ⟨b, hbb, rb.below hb rb.lt⟩, h.rr.below hb h.rr.lt⟩
theorem set_b8 (bs : List By) (i : Nat) (b : By) : (bs.map B8).set i (.int .u8 (b.toNat : Int)) = (bs.set i b).map B8 := by
  rw [List.map_set]; rfl
theorem row_setB {g g' : Nat} {b : By} {i : Nat} (h : ∃ bs : List By, bs.length = n /\ Row W g 5 (bs.map B8)) : ∃ bs : List By, bs.length = n /\ Row (W.setCell ⟨g', i, none⟩ (.int .u8 (b.toNat : Int))) g 5 (bs.map B8) := by
  obtain ⟨a, ha, ra⟩ := h
  by_cases e : g = g'
  · subst e
    exact ⟨a.set i b, by rw [List.length_set, ha], by rw [<- set_b8]; exact ra.set i _⟩
  · exact ⟨a, ha, ra.setOther _ _ e⟩
theorem RLj.setA (h : RLj w n gA gB gR W) (i : Nat) (b : By) : RLj w n gA gB gR (W.setCell ⟨gA, i, none⟩ (.int .u8 (b.toNat : Int))) :=
  ⟨(SameBut.setCell gA i _ W).below h.bel h.la, h.la, h.lb, h.lr, h.na, h.nb, row_setB h.ra, row_setB h.rb, h.rr.setOther _ _ (Ne.symm h.na)⟩
theorem RLj.setB (h : RLj w n gA gB gR W) (i : Nat) (b : By) : RLj w n gA gB gR (W.setCell ⟨gB, i, none⟩ (.int .u8 (b.toNat : Int))) :=
  ⟨(SameBut.setCell gB i _ W).below h.bel h.lb, h.la, h.lb, h.lr, h.na, h.nb, row_setB h.ra, row_setB h.rb, h.rr.setOther _ _ (Ne.symm h.nb)⟩
theorem row_bytes {g i : Nat} (h : ∃ bs : List By, bs.length = n /\ Row W g 5 (bs.map B8)) (hi : i < n) : (∃ b : By, W.cell? ⟨g, i, none⟩ = some (.int .u8 (b.toNat : Int))) /\ W.frozen? ⟨g, i, none⟩ = false := by
  obtain ⟨bs, hl, hr⟩ := h
  exact ⟨⟨bs[i]'(by omega), hr.cell i _ (by rw [List.getElem?_map, List.getElem?_eq_getElem (by omega)]; rfl)⟩, hr.frozen i⟩
end

/-- What the drawn region has made so far. -/
structure RGj (w : World) (n : Nat) (l2 l5 l6 l7 : Bool) (x81 x84 x85 x14 : Value) (W : World) : Prop where
  bel : Below w.heap.size w W
  f2 : l2 = true -> ∃ g, x81 = .slice (some ⟨g, 0, none⟩) n n /\ w.heap.size <= g /\ Row W g 5 ((List.replicate n (0 : By)).map B8)
  f5 : l5 = true -> ∃ g, x84 = .slice (some ⟨g, 0, none⟩) n n /\ w.heap.size <= g /\ Row W g 5 ((List.replicate n (0 : By)).map B8)
  f6 : l6 = true -> ∃ gA gB gR, x85 = .slice (some ⟨gR, 0, none⟩) 2 2 /\ RLj w n gA gB gR W
  f7 : l7 = true -> l6 = true /\ x14 = x85
section
variable {w W : World} {n : Nat} {l2 l5 l6 l7 : Bool} {x81 x84 x85 x14 : Value}
theorem RGj.zero (w : World) (n : Nat) (x81 x84 x85 x14 : Value) : RGj w n false false false false x81 x84 x85 x14 w.drew :=
  ⟨(Below.refl _ _).drew, fun h => (by cases h), fun h => (by cases h), fun h => (by cases h), fun h => (by cases h)⟩
theorem RGj.s2 (h : RGj w n l2 l5 l6 l7 x81 x84 x85 x14 W) : RGj w n true l5 l6 l7 (.slice (some ⟨W.heap.size, 0, none⟩) n n) x84 x85 x14 (W.alloc (.cells ((List.replicate n (0 : By)).map B8).toArray 5)) :=
  ⟨h.bel.alloc h.bel.size _, fun _ => ⟨_, rfl, h.bel.size, Row.new W _ _⟩, fun k => let ⟨g, e, l, r⟩ := h.f5 k; ⟨g, e, l, r.alloc _⟩, fun k => let ⟨gA, gB, gR, e, r⟩ := h.f6 k; ⟨gA, gB, gR, e, r.keep ((Below.refl _ _).alloc (Nat.le_refl _) _)⟩, h.f7⟩
theorem RGj.s5 (h : RGj w n l2 l5 l6 l7 x81 x84 x85 x14 W) : RGj w n l2 true l6 l7 x81 (.slice (some ⟨W.heap.size, 0, none⟩) n n) x85 x14 (W.alloc (.cells ((List.replicate n (0 : By)).map B8).toArray 5)) :=
  ⟨h.bel.alloc h.bel.size _, fun k => let ⟨g, e, l, r⟩ := h.f2 k; ⟨g, e, l, r.alloc _⟩, fun _ => ⟨_, rfl, h.bel.size, Row.new W _ _⟩, fun k => let ⟨gA, gB, gR, e, r⟩ := h.f6 k; ⟨gA, gB, gR, e, r.keep ((Below.refl _ _).alloc (Nat.le_refl _) _)⟩, h.f7⟩
theorem RGj.s6 (h : RGj w n l2 l5 l6 l7 x81 x84 x85 x14 W) (h6 : l6 = false) {gA gB : Nat} (ea : w.heap.size <= gA) (ra : Row W gA 5 ((List.replicate n (0 : By)).map B8)) (eb : w.heap.size <= gB) (rb : Row W gB 5 ((List.replicate n (0 : By)).map B8)) :
    RGj w n l2 l5 true l7 x81 x84 (.slice (some ⟨W.heap.size, 0, none⟩) 2 2) x14 (W.alloc (.cells #[.slice (some ⟨gA, 0, none⟩) n n, .slice (some ⟨gB, 0, none⟩) n n] 23)) :=
  ⟨h.bel.alloc h.bel.size _, fun k => let ⟨g, e, l, r⟩ := h.f2 k; ⟨g, e, l, r.alloc _⟩, fun k => let ⟨g, e, l, r⟩ := h.f5 k; ⟨g, e, l, r.alloc _⟩,
    fun _ => ⟨gA, gB, _, rfl, h.bel.alloc h.bel.size _, ea, eb, h.bel.size, Nat.ne_of_lt ra.lt, Nat.ne_of_lt rb.lt, ⟨_, by simp, ra.alloc _⟩, ⟨_, by simp, rb.alloc _⟩, Row.at W _ _ _ _ rfl rfl⟩,
    fun k => by have := (h.f7 k).1; rw [h6] at this; cases this⟩
theorem RGj.s7 (h : RGj w n l2 l5 l6 l7 x81 x84 x85 x14 W) (h6 : l6 = true) : RGj w n l2 l5 l6 true x81 x84 x85 x85 W := ⟨h.bel, h.f2, h.f5, h.f6, fun _ => ⟨h6, rfl⟩⟩
end

theorem el_rows25 : ElT 56 23 1 24 (.slice none 0 0) := ⟨Tryd.underlying56, by kernel_rfl, rfl, by omega⟩
/-- k rows of n bytes. -/
structure Rws (n k : Nat) (W : World) (v : Value) : Prop where
  eq : ∃ gR c, v = .slice (some ⟨gR, 0, none⟩) k c /\ k <= 3 /\ ∀ i, i < k -> ∃ ao c' m, m.length = n /\ W.cell? ⟨gR, i, none⟩ = some (.slice ao n c') /\ RowIn W ao c' m
theorem Rws.keep {n k : Nat} {W W2 : World} {v : Value} (h : Rws n k W v) (hb : Below W.heap.size W W2) : Rws n k W2 v := by
  obtain ⟨gR, c, e, hk, hc⟩ := h.eq
  refine ⟨gR, c, e, hk, fun i hi => ?_⟩
  obtain ⟨ao, c', m, h1, h2, h3⟩ := hc i hi
  exact ⟨ao, c', m, h1, (hb.cell (p := ⟨gR, i, none⟩) (World.block_lt_of_cell? _ _ h2)).trans h2, h3.keep hb⟩
theorem Rws.at {n k gR c : Nat} {W : World} (h : Rws n k W (.slice (some ⟨gR, 0, none⟩) k c)) {i : Nat} (hi : i < k) : ∃ ao c' m, m.length = n /\ W.cell? ⟨gR, i, none⟩ = some (.slice ao n c') /\ RowIn W ao c' m := by
  obtain ⟨g, c1, e, _, hc⟩ := h.eq
  injection e with e1 e2 e3
  injection e1 with e1
  injection e1 with e1
  subst e1
  exact hc i hi
theorem b8_mod (n : Nat) : ((n : Int) % 256) = ((BitVec.ofNat 8 n : By).toNat : Int) := by
  rw [BitVec.toNat_ofNat]; omega
theorem bits_xor_b (x y : Int) : ∃ b : By, bits .xor .u8 x y = (b.toNat : Int) := ⟨BitVec.ofInt 8 x ^^^ BitVec.ofInt 8 y, by
  show IntKind.u8.wrap ((BitVec.ofInt 8 x ^^^ BitVec.ofInt 8 y).toNat : Int) = _
  rw [IntKind.wrap_u8']
  have := (BitVec.ofInt 8 x ^^^ BitVec.ofInt 8 y).isLt
  omega⟩
theorem row_rowIn {W : World} {g n : Nat} (hn : n <= 140737488351232) (h : ∃ bs : List By, bs.length = n /\ Row W g 5 (bs.map B8)) : ∃ m : List By, m.length = n /\ RowIn W (some ⟨g, 0, none⟩) n m := by
  obtain ⟨bs, hl, hr⟩ := h
  refine ⟨bs, hl, by omega, by omega, fun h => (by cases h), .inr ⟨g, 0, rfl, fun j v hj => ?_⟩⟩
  rw [Nat.zero_add]
  exact hr.cell j _ (by rw [List.getElem?_map, hj]; rfl)
theorem RLj.rws {w W : World} {n gA gB gR : Nat} (h : RLj w n gA gB gR W) (hn : n <= 140737488351232) : Rws n 2 W (.slice (some ⟨gR, 0, none⟩) 2 2) := by
  refine ⟨gR, 2, rfl, by omega, fun i hi => ?_⟩
  match i, hi with
  | 0, _ => obtain ⟨m, h1, h2⟩ := row_rowIn hn h.ra; exact ⟨_, _, m, h1, h.rr.cell 0 _ rfl, h2⟩
  | 1, _ => obtain ⟨m, h1, h2⟩ := row_rowIn hn h.rb; exact ⟨_, _, m, h1, h.rr.cell 1 _ rfl, h2⟩
theorem RLj.owns {w W : World} {n gA gB gR : Nat} (h : RLj w n gA gB gR W) : W.ownsRow w.heap.size 23 1 (.slice (some ⟨gR, 0, none⟩) 2 2) 2 [.slice (some ⟨gA, 0, none⟩) n n, .slice (some ⟨gB, 0, none⟩) n n] :=
  ⟨rfl, .inr ⟨gR, 2, _, rfl, h.lr, h.rr, Nat.le_refl _, by unfold maxLen; omega, rfl, rfl⟩⟩
theorem wpList_appR25 {ops : Array Oper} {rest : List Oper} {o : Oper} {a : Act} {W : World} {Q : Exit -> Act -> World -> Prop} (hgd : o.guard = none) (s x : Operand)
    (ho : o.op = .call { callee := .builtin .append, args := #[s, x], argTypes := #[56, 56] })
    (w : World) (n gA gB gR : Nat) (hR : RLj w n gA gB gR W) (hn : n <= 140737488351232) (t : Nat) (g0 : Nat) (hg0 : g0 = W.heap.size) (ao : Option Addr) (c : Nat) (m : List By) (hm : m.length = n) (hi : RowIn w ao c m)
    (hs : a.eval s = .slice (some ⟨gR, 0, none⟩) 2 2) (hx : a.eval x = .slice (some ⟨g0, 0, none⟩) 1 1)
    (h : ∀ v w', Rws n 3 w' v -> Below w.heap.size w w' -> wpList Tryd.prog ops Q rest (a.put o.dst v) w') :
    wpList Tryd.prog ops Q (o :: rest) a (W.alloc (.cells #[.slice ao n c] t)) := by
  subst hg0
  refine wpList_plain hgd fun K hK => ?_
  have hr := Row.at W t [.slice ao n c] #[.slice ao n c] _ rfl rfl
  obtain ⟨ao', c', w', hrun, k2, k3, k4, k5⟩ := run_append_gen el_rows25 w.heap.size w _ o.type _ 2 2 _ (hR.owns.alloc (.cells #[.slice ao n c] t)) (by have := hR.bel.size; simp; omega) (hR.bel.alloc hR.bel.size (.cells #[.slice ao n c] t)) (some ⟨W.heap.size, 0, none⟩) 1 1 [.slice ao n c] rfl
    (.inr ⟨W.heap.size, 0, rfl, fun j u hu => by have := hr.cell j u hu; simpa using this⟩) (by intro u hu; rw [List.mem_singleton.1 hu]; rfl) (fun h => by cases h) (by unfold maxLen; omega) (by omega)
  unfold Oper.wp execOp
  simp only [ho, resolve, invoke, builtin, Sem.run_bind, Sem.run_pure, Result.andThen_ok, List.map_toArray, List.map_cons, List.map_nil, hs, hx, hrun]
  refine hK _ _ (h _ w' ?_ k3)
  have blk : ∀ g, g < W.heap.size -> g ≠ gR -> w'.heap[g]? = W.heap[g]? := fun g hg hne => by
    rw [k5 g (by simp; omega) (fun g' e => by injection e with e; injection e with e; omega)]
    exact heap_alloc_old W _ hg
  have keepR : ∀ g, g ≠ gR -> (∃ bs : List By, bs.length = n /\ Row W g 5 (bs.map B8)) -> ∃ bs : List By, bs.length = n /\ Row w' g 5 (bs.map B8) := fun g hne ⟨bs, hl, hr⟩ => ⟨bs, hl, (blk g hr.lt hne).trans hr⟩
  rcases k2.2 with ⟨_, e⟩ | ⟨gN, cap, cur, e1, _, h2, h3, h4, h5, h6⟩
  · omega
  refine ⟨gN, cap, e1, by omega, fun i hi' => ?_⟩
  have cell : ∀ i u, [Value.slice (some ⟨gA, 0, none⟩) n n, .slice (some ⟨gB, 0, none⟩) n n, .slice ao n c][i]? = some u -> w'.cell? ⟨gN, i, none⟩ = some u := fun i u hu => by
    have := k2.cells (g := gN) (by rw [e1]; rfl) i u hu
    rwa [Addr.add_mid, Nat.zero_add] at this
  match i, hi' with
  | 0, _ => obtain ⟨m, h1, h2⟩ := row_rowIn hn (keepR _ hR.na hR.ra); exact ⟨_, _, m, h1, cell 0 _ rfl, h2⟩
  | 1, _ => obtain ⟨m, h1, h2⟩ := row_rowIn hn (keepR _ hR.nb hR.rb); exact ⟨_, _, m, h1, cell 1 _ rfl, h2⟩
  | 2, _ => exact ⟨ao, c, m, hm, cell 2 _ rfl, hi.keep k3⟩
theorem own_le25 {N N' : Nat} {W : World} {v : Value} {m : List By} (h : Own N W v m) (hN : N' <= N) : Own N' W v m := ⟨own_leL h.1 hN, Nat.le_trans hN h.2⟩
end Go.Proofs.YtplpoehfdhkhmaaDoor
