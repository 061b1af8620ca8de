
import Derived.Test.YtjooabgjkjnhhaaDoorV24F
import Derived.Test.YtjooabgjkjnhhaaDoorV24B
import Derived.Test.YtjooabgjkjnhhaaDoorV24I
/-! The code's token: Narrow. (Printed by tools/genv24.py.) -/
namespace Go.Proofs.YtjooabgjkjnhhaaDoor
open Go.RowKit
set_option linter.unusedVariables false
set_option linter.unusedSimpArgs false
set_option maxRecDepth 100000

/-- What 'copy' does with n elements of some cells each, at the beginning of a row. -/
theorem run_copy_many {w : World} {T e size g t : Nat} {C xs : List Value} (n room cap cap' ty : Nat) (src : Addr) (uT : Tryd.prog.underlying T = some (.slice e)) (uz : (Tryd.prog.info? e).map (·.size) = some size)
    (row : Row w g t C) (fits : xs.length ≤ C.length) (len : xs.length = n * size) (le : n ≤ room) (plain : ∀ u ∈ xs, u.oneCell' = true) (lies : ∀ i u, xs[i]? = some u → w.cell? (src.add i) = some u) :
    (Builtin.copy_ #[T, T] ty #[.slice (some ⟨g, 0, none⟩) room cap, .slice (some src) n cap']).run Tryd.prog w = .ok (goInt n) (w.setCells g 0 xs) := by
  obtain ⟨i, hi⟩ : ∃ i, Tryd.prog.info? e = some i := by
    cases h : Tryd.prog.info? e
    · rw [h] at uz; cases uz
    · exact ⟨_, rfl⟩
  have sz : i.size = size := by rw [hi] at uz; injection uz
  have mn : Nat.min n room = n := Nat.min_eq_left le
  have rd := run_loadCells_list (P := Tryd.prog) w src xs lies
  have wr := run_storeCells_cells (P := Tryd.prog) g 0 xs 0 w (fun j hj => by
    simp only [Nat.zero_add]; rw [row.cell j _ (List.getElem?_eq_getElem (by omega))]; rfl) (fun j _ => row.frozen _) plain
  rw [len] at rd
  simp [Builtin.copy_, run_underlying uT, Builtin.lenOf, Builtin.firstCells, sizeOf, typeInfo, hi, sz, mn, rd, wr]
/-- A slice of caveats made at its full length. -/
theorem wpList_make_cvsN {ops : Array Oper} {rest : List Oper} {o : Oper} {a : Act} {w : World} {Q : Exit → Act → World → Prop} (hg : o.guard = none) (l c : Operand) (hop : o.op = Op.makeSlice 34 l c)
    (m : Nat) (C : Int) (hl : a.eval l = .int .i64 C) (hc : a.eval c = .int .i64 C) (hC : C = (m : Int)) (hm : m ≤ 1000000)
    (hK : ∀ w', Row w' w.heap.size 64 (zCvs m) → Below w.heap.size w w' → w'.heap.size = w.heap.size + 1 → wpList Tryd.prog ops Q rest (a.put o.dst (.slice (some ⟨w.heap.size, 0, none⟩) m m)) w') :
    wpList Tryd.prog ops Q (o :: rest) a w := by
  obtain ⟨i0, hi, hz0, hz1, hz2⟩ := info_parts el_tocavs.info
  refine wpList_plain hg fun K hK' => ?_
  subst hC
  have hrun := run_make (P := Tryd.prog) w 34 64 i0 (.agg zCv.toArray) Tryd.underlying34 hi hz0 .i64 .i64 (m : Int) (m : Int) (by omega) (by omega) (by rw [hz2]; omega) (by omega)
  rw [hz1] at hrun
  unfold Oper.wp
  simp [execOp, hop, hl, hc, hrun, Result.andThen]
  refine hK' _ _ (hK _ ?_ ((Below.refl _ _).alloc (Nat.le_refl _) _) (by simp))
  refine Row.at w _ _ _ _ rfl ?_
  have := made_cvs m
  apply Array.toList_inj.1
  simpa [Value.cells] using this
/-- 'copy' of caveats into a row that has room for them. -/
theorem wpList_copy_cvs {ops : Array Oper} {rest : List Oper} {o : Oper} {a : Act} {w : World} {Q : Exit → Act → World → Prop} (hgd : o.guard = none) (d s : Operand)
    (ho : o.op = .call { callee := .builtin .copy, args := #[d, s], argTypes := #[34, 34] })
    (D dLen dCap : Nat) (lo : Option Addr) (lc : Nat) (l : List Cv) (m : Nat) (hm : l.length = m) (hd : a.eval d = .slice (some ⟨D, 0, none⟩) dLen dCap) (hs : a.eval s = .slice lo m lc) (hle : m ≤ dLen)
    (C : List Value) (hr : Row w D 64 C) (hC : m * 5 ≤ C.length) (hl : CvsIn w lo l) (hnil : lo = none → lc = 0)
    (h : ∀ w', Row w' D 64 (l.flatMap cvC ++ C.drop (m * 5)) → SameBut D w w' → wpList Tryd.prog ops Q rest (a.put o.dst (.int .i64 (m : Int))) w') : wpList Tryd.prog ops Q (o :: rest) a w := by
  refine wpList_plain hgd fun K hK => ?_
  have hl5 : (l.flatMap cvC).length = m * 5 := by rw [flC_len, hm]
  have key : ∃ w', (Builtin.copy_ #[34, 34] o.type #[.slice (some ⟨D, 0, none⟩) dLen dCap, .slice lo m lc]).run Tryd.prog w = .ok (.int .i64 (m : Int)) w' ∧ Row w' D 64 (l.flatMap cvC ++ C.drop (m * 5)) ∧ SameBut D w w' := by
    cases lo with
    | none =>
      have h0 : l = [] := by
        cases l with
        | nil => rfl
        | cons c l => obtain ⟨B, off, e, _⟩ := hl 0 c rfl; cases e
      subst h0
      obtain rfl : m = 0 := hm.symm
      have e0 := hnil rfl
      subst e0
      refine ⟨w, run_copy_nil (P := Tryd.prog) w 34 34 o.type 64 ⟨D, 0, none⟩ dLen dCap Tryd.underlying34 (by kernel_rfl), ?_, SameBut.refl _ _⟩
      simpa using hr
    | some ad =>
      have hIL := cvs_isL hl
      have hsrc : ∀ j v, (l.flatMap cvC)[j]? = some v → w.cell? (ad.add j) = some v := by
        intro j v hv
        rcases hIL with h0 | ⟨B, off, e, hcell⟩
        · rw [h0] at hv; cases hv
        · injection e with e
          subst e
          rw [Addr.add_mid]
          exact hcell j v hv
      have hrun := run_copy_many (T := 34) m dLen dCap lc o.type ad Tryd.underlying34 (by kernel_rfl) hr (by rw [hl5]; exact hC) hl5 hle (flC_one l) hsrc
      refine ⟨_, hrun, ?_, SameBut.setCells D _ 0 w⟩
      have := Row.setCells (l.flatMap cvC) 0 w C hr (by rw [hl5]; omega)
      rw [hl5] at this
      simpa using this
  obtain ⟨w', hrun, h1, h2⟩ := key
  unfold Oper.wp execOp
  simp only [ho, resolve, invoke, builtin, Sem.run_bind, Sem.run_pure, Result.andThen_ok, List.map_toArray, List.map_cons, List.map_nil, hd, hs, hrun]
  exact hK _ _ (h w' h1 h2)
theorem owns_cvs {N D : Nat} {W : World} {l : List Cv} (h : Row W D 64 (l.flatMap cvC)) (hN : N ≤ D) (hl : l.length ≤ 1000000) : W.ownsRow N 64 5 (.slice (some ⟨D, 0, none⟩) l.length l.length) l.length (l.flatMap cvC) :=
  ⟨flC_len l, .inr ⟨D, l.length, (l.flatMap cvC).toArray, rfl, hN, h, Nat.le_refl _, by unfold maxLen; omega, by rw [List.size_toArray, flC_len], by
    rw [List.take_of_length_le (by rw [flC_len]; exact Nat.le_refl _)]⟩⟩
/-- While a token is narrowed. -/
structure NW9 (w : World) (key : Int) (id TG : List By) (cs : List Cv) (c : Cv) (D : Nat) (T : List Value) (q4 q10 q11 : Bool) (x41 x47 : Value) (W : World) : Prop where
  bel : Below w.heap.size w W
  sz : w.heap.size + 3 ≤ W.heap.size
  hD : w.heap.size + 3 ≤ D
  c10 : q10 = true → q4 = true
  c11 : q11 = true → q10 = true
  box : Row W w.heap.size 36 T
  cav : Row W D 64 ((cs ++ [c]).flatMap cvC)
  res : q11 = false → Row W (w.heap.size + 2) 36 zTk
  p4 : q4 = true → ∃ B, x41 = .slice (some ⟨B, 0, none⟩) id.length id.length ∧ Own (w.heap.size + 3) W (.slice (some ⟨B, 0, none⟩) id.length id.length) id ∧ (q10 = true → x47 = .agg (tkC key (some ⟨B, 0, none⟩) id.length id.length (some ⟨D, 0, none⟩) (cs.length + 1) (cs.length + 1) TG).toArray) ∧ (q11 = true → Row W (w.heap.size + 2) 36 (tkC key (some ⟨B, 0, none⟩) id.length id.length (some ⟨D, 0, none⟩) (cs.length + 1) (cs.length + 1) TG))
section
variable {w : World} {key : Int} {id TG : List By} {cs : List Cv} {c : Cv} {D : Nat} {T : List Value} {q4 q10 q11 : Bool} {x41 x47 : Value} {W W2 : World}
theorem NW9.keep (h : NW9 w key id TG cs c D T q4 q10 q11 x41 x47 W) (hb : Below W.heap.size W W2) : NW9 w key id TG cs c D T q4 q10 q11 x41 x47 W2 :=
  ⟨h.bel.trans (hb.mono h.bel.size), Nat.le_trans h.sz hb.size, h.hD, h.c10, h.c11, h.box.below hb h.box.lt, h.cav.below hb h.cav.lt, fun e => (h.res e).below hb (h.res e).lt, fun e => by
    obtain ⟨B, u, o, f, g⟩ := h.p4 e
    exact ⟨B, u, o.keep hb, f, fun e2 => (g e2).below hb (g e2).lt⟩⟩
theorem NW9.s4 (h : NW9 w key id TG cs c D T q4 q10 q11 x41 x47 W) (e4 : q4 = false) (ho : Own W.heap.size W2 (.slice (some ⟨W.heap.size, 0, none⟩) id.length id.length) id) (hb : Below W.heap.size W W2) : NW9 w key id TG cs c D T true q10 q11 (.slice (some ⟨W.heap.size, 0, none⟩) id.length id.length) x47 W2 := by
  have e10 := ff24 h.c10 e4
  have e11 := ff24 h.c11 e10
  exact ⟨h.bel.trans (hb.mono h.bel.size), Nat.le_trans h.sz hb.size, h.hD, fun _ => rfl, h.c11, h.box.below hb h.box.lt, h.cav.below hb h.cav.lt, fun e => (h.res e).below hb (h.res e).lt, fun _ => ⟨_, rfl, own_le ho h.sz, fun e => (by rw [e10] at e; cases e), fun e => (by rw [e11] at e; cases e)⟩⟩
theorem NW9.s10 (h : NW9 w key id TG cs c D T q4 q10 q11 x41 x47 W) (e4 : q4 = true) (e10 : q10 = false) {B : Nat} (u : x41 = .slice (some ⟨B, 0, none⟩) id.length id.length) : NW9 w key id TG cs c D T q4 true q11 x41 (.agg (tkC key (some ⟨B, 0, none⟩) id.length id.length (some ⟨D, 0, none⟩) (cs.length + 1) (cs.length + 1) TG).toArray) W := by
  have e11 := ff24 h.c11 e10
  refine ⟨h.bel, h.sz, h.hD, fun _ => e4, fun _ => rfl, h.box, h.cav, h.res, fun _ => ?_⟩
  obtain ⟨B2, u2, o, f, g⟩ := h.p4 e4
  rw [u] at u2
  injection u2 with a1 a2 a3
  injection a1 with a1
  injection a1 with a1
  subst a1
  exact ⟨B, u, o, fun _ => rfl, fun e => (by rw [e11] at e; cases e)⟩
theorem NW9.s11 (h : NW9 w key id TG cs c D T q4 q10 q11 x41 x47 W) (e10 : q10 = true) (e11 : q11 = false) {B : Nat} (u : x41 = .slice (some ⟨B, 0, none⟩) id.length id.length) (hr : Row W2 (w.heap.size + 2) 36 (tkC key (some ⟨B, 0, none⟩) id.length id.length (some ⟨D, 0, none⟩) (cs.length + 1) (cs.length + 1) TG)) (hs : SameBut (w.heap.size + 2) W W2) : NW9 w key id TG cs c D T q4 q10 true x41 x47 W2 := by
  refine ⟨hs.below h.bel (by omega), by rw [hs.size]; exact h.sz, h.hD, h.c10, fun _ => e10, h.box.but hs (by omega), h.cav.but hs (by have := h.hD; omega), fun e => (by cases e), fun e => ?_⟩
  obtain ⟨B2, u2, o, f, g⟩ := h.p4 e
  have u3 := u2
  rw [u] at u3
  injection u3 with a1 a2 a3
  injection a1 with a1
  injection a1 with a1
  subst a1
  exact ⟨B, u, own_butr o hs (h.res e11) (by decide), f, fun _ => hr⟩
end
structure NR9 (W1 : World) (w : World) (key : Int) (id tg TG : List By) (cs : List Cv) (c : Cv) (D : Nat) (T : List Value) (io : Option Addr) (ic : Nat) (dv : Value) (L : Nat → Bool) (x37 x38 x39 x40 x41 x42 x43 x44 x45 x46 x47 x5 : Value) (W : World) : Prop where
  x : NW9 w key id TG cs c D T (L 4) (L 10) (L 11) x41 x47 W
  p0 : L 0 = true → x37 = .pointer (some ⟨w.heap.size, 0, none⟩)
  p1 : L 1 = true → x38 = .int .i64 key
  p2 : L 2 = true → x39 = .pointer (some ⟨w.heap.size, 1, none⟩)
  p3 : L 3 = true → x40 = .slice io id.length ic
  p5 : L 5 = true → x42 = .slice (some ⟨D, 0, none⟩) (cs.length + 1) (cs.length + 1)
  p6 : L 6 = true → x43 = .pointer (some ⟨w.heap.size, 3, none⟩)
  p7 : L 7 = true → x44 = .agg (tg.map B8).toArray
  p8 : L 8 = true → x45 = dv
  p9 : L 9 = true → x46 = .agg (TG.map B8).toArray
  p12 : L 12 = true → x5 = .int .i64 0
section
variable {W1 : World} {w : World} {key : Int} {id tg TG : List By} {cs : List Cv} {c : Cv} {D : Nat} {T : List Value} {io : Option Addr} {ic : Nat} {dv : Value} {L : Nat → Bool} {x37 x38 x39 x40 x41 x42 x43 x44 x45 x46 x47 x5 : Value} {W W2 : World}
theorem NR9.s0 (h : NR9 W1 w key id tg TG cs c D T io ic dv L x37 x38 x39 x40 x41 x42 x43 x44 x45 x46 x47 x5 W) : NR9 W1 w key id tg TG cs c D T io ic dv (upd L 0) (.pointer (some ⟨w.heap.size, 0, none⟩)) x38 x39 x40 x41 x42 x43 x44 x45 x46 x47 x5 W :=
  ⟨h.x, fun _ => rfl, h.p1, h.p2, h.p3, h.p5, h.p6, h.p7, h.p8, h.p9, h.p12⟩
theorem NR9.s1 (h : NR9 W1 w key id tg TG cs c D T io ic dv L x37 x38 x39 x40 x41 x42 x43 x44 x45 x46 x47 x5 W) : NR9 W1 w key id tg TG cs c D T io ic dv (upd L 1) x37 (.int .i64 key) x39 x40 x41 x42 x43 x44 x45 x46 x47 x5 W :=
  ⟨h.x, h.p0, fun _ => rfl, h.p2, h.p3, h.p5, h.p6, h.p7, h.p8, h.p9, h.p12⟩
theorem NR9.s2 (h : NR9 W1 w key id tg TG cs c D T io ic dv L x37 x38 x39 x40 x41 x42 x43 x44 x45 x46 x47 x5 W) : NR9 W1 w key id tg TG cs c D T io ic dv (upd L 2) x37 x38 (.pointer (some ⟨w.heap.size, 1, none⟩)) x40 x41 x42 x43 x44 x45 x46 x47 x5 W :=
  ⟨h.x, h.p0, h.p1, fun _ => rfl, h.p3, h.p5, h.p6, h.p7, h.p8, h.p9, h.p12⟩
theorem NR9.s3 (h : NR9 W1 w key id tg TG cs c D T io ic dv L x37 x38 x39 x40 x41 x42 x43 x44 x45 x46 x47 x5 W) : NR9 W1 w key id tg TG cs c D T io ic dv (upd L 3) x37 x38 x39 (.slice io id.length ic) x41 x42 x43 x44 x45 x46 x47 x5 W :=
  ⟨h.x, h.p0, h.p1, h.p2, fun _ => rfl, h.p5, h.p6, h.p7, h.p8, h.p9, h.p12⟩
theorem NR9.s4 (h : NR9 W1 w key id tg TG cs c D T io ic dv L x37 x38 x39 x40 x41 x42 x43 x44 x45 x46 x47 x5 W) {v : Value} (hX : NW9 w key id TG cs c D T ((upd L 4) 4) ((upd L 4) 10) ((upd L 4) 11) v x47 W2) : NR9 W1 w key id tg TG cs c D T io ic dv (upd L 4) x37 x38 x39 x40 v x42 x43 x44 x45 x46 x47 x5 W2 :=
  ⟨hX, h.p0, h.p1, h.p2, h.p3, h.p5, h.p6, h.p7, h.p8, h.p9, h.p12⟩
theorem NR9.s5 (h : NR9 W1 w key id tg TG cs c D T io ic dv L x37 x38 x39 x40 x41 x42 x43 x44 x45 x46 x47 x5 W) : NR9 W1 w key id tg TG cs c D T io ic dv (upd L 5) x37 x38 x39 x40 x41 (.slice (some ⟨D, 0, none⟩) (cs.length + 1) (cs.length + 1)) x43 x44 x45 x46 x47 x5 W :=
  ⟨h.x, h.p0, h.p1, h.p2, h.p3, fun _ => rfl, h.p6, h.p7, h.p8, h.p9, h.p12⟩
theorem NR9.s6 (h : NR9 W1 w key id tg TG cs c D T io ic dv L x37 x38 x39 x40 x41 x42 x43 x44 x45 x46 x47 x5 W) : NR9 W1 w key id tg TG cs c D T io ic dv (upd L 6) x37 x38 x39 x40 x41 x42 (.pointer (some ⟨w.heap.size, 3, none⟩)) x44 x45 x46 x47 x5 W :=
  ⟨h.x, h.p0, h.p1, h.p2, h.p3, h.p5, fun _ => rfl, h.p7, h.p8, h.p9, h.p12⟩
theorem NR9.s7 (h : NR9 W1 w key id tg TG cs c D T io ic dv L x37 x38 x39 x40 x41 x42 x43 x44 x45 x46 x47 x5 W) : NR9 W1 w key id tg TG cs c D T io ic dv (upd L 7) x37 x38 x39 x40 x41 x42 x43 (.agg (tg.map B8).toArray) x45 x46 x47 x5 W :=
  ⟨h.x, h.p0, h.p1, h.p2, h.p3, h.p5, h.p6, fun _ => rfl, h.p8, h.p9, h.p12⟩
theorem NR9.s8 (h : NR9 W1 w key id tg TG cs c D T io ic dv L x37 x38 x39 x40 x41 x42 x43 x44 x45 x46 x47 x5 W) : NR9 W1 w key id tg TG cs c D T io ic dv (upd L 8) x37 x38 x39 x40 x41 x42 x43 x44 (dv) x46 x47 x5 W :=
  ⟨h.x, h.p0, h.p1, h.p2, h.p3, h.p5, h.p6, h.p7, fun _ => rfl, h.p9, h.p12⟩
theorem NR9.s9 (h : NR9 W1 w key id tg TG cs c D T io ic dv L x37 x38 x39 x40 x41 x42 x43 x44 x45 x46 x47 x5 W) (hX : NW9 w key id TG cs c D T ((upd L 9) 4) ((upd L 9) 10) ((upd L 9) 11) x41 x47 W2) : NR9 W1 w key id tg TG cs c D T io ic dv (upd L 9) x37 x38 x39 x40 x41 x42 x43 x44 x45 (.agg (TG.map B8).toArray) x47 x5 W2 :=
  ⟨hX, h.p0, h.p1, h.p2, h.p3, h.p5, h.p6, h.p7, h.p8, fun _ => rfl, h.p12⟩
theorem NR9.s10 (h : NR9 W1 w key id tg TG cs c D T io ic dv L x37 x38 x39 x40 x41 x42 x43 x44 x45 x46 x47 x5 W) {v : Value} (hX : NW9 w key id TG cs c D T ((upd L 10) 4) ((upd L 10) 10) ((upd L 10) 11) x41 v W2) : NR9 W1 w key id tg TG cs c D T io ic dv (upd L 10) x37 x38 x39 x40 x41 x42 x43 x44 x45 x46 v x5 W2 :=
  ⟨hX, h.p0, h.p1, h.p2, h.p3, h.p5, h.p6, h.p7, h.p8, h.p9, h.p12⟩
theorem NR9.s11 (h : NR9 W1 w key id tg TG cs c D T io ic dv L x37 x38 x39 x40 x41 x42 x43 x44 x45 x46 x47 x5 W) (hX : NW9 w key id TG cs c D T ((upd L 11) 4) ((upd L 11) 10) ((upd L 11) 11) x41 x47 W2) : NR9 W1 w key id tg TG cs c D T io ic dv (upd L 11) x37 x38 x39 x40 x41 x42 x43 x44 x45 x46 x47 x5 W2 :=
  ⟨hX, h.p0, h.p1, h.p2, h.p3, h.p5, h.p6, h.p7, h.p8, h.p9, h.p12⟩
theorem NR9.s12 (h : NR9 W1 w key id tg TG cs c D T io ic dv L x37 x38 x39 x40 x41 x42 x43 x44 x45 x46 x47 x5 W) : NR9 W1 w key id tg TG cs c D T io ic dv (upd L 12) x37 x38 x39 x40 x41 x42 x43 x44 x45 x46 x47 (.int .i64 0) W :=
  ⟨h.x, h.p0, h.p1, h.p2, h.p3, h.p5, h.p6, h.p7, h.p8, h.p9, fun _ => rfl⟩
end
@[reducible] def INR9 (W1 : World) (w : World) (key : Int) (id tg TG : List By) (cs : List Cv) (c : Cv) (D : Nat) (T : List Value) (io : Option Addr) (ic : Nat) (dv : Value) (y0 y1 y2 y3 y4 y6 y7 y8 y9 y10 y11 y12 y13 y14 y15 y16 y17 y18 y19 y20 y21 y22 y23 y24 y25 y26 y27 y28 y29 y30 y31 y32 y33 y34 y35 y36 : Value) : (Nat → Bool) → Act → World → Prop := fun L a W => ∃ x37 x38 x39 x40 x41 x42 x43 x44 x45 x46 x47 x5, a = ⟨#[y0, y1, y2, y3, y4, x5, y6, y7, y8, y9, y10, y11, y12, y13, y14, y15, y16, y17, y18, y19, y20, y21, y22, y23, y24, y25, y26, y27, y28, y29, y30, y31, y32, y33, y34, y35, y36, x37, x38, x39, x40, x41, x42, x43, x44, x45, x46, x47], []⟩ ∧ NR9 W1 w key id tg TG cs c D T io ic dv L x37 x38 x39 x40 x41 x42 x43 x44 x45 x46 x47 x5 W
theorem NR9.step {W1 : World} {w : World} {key : Int} {id tg TG : List By} {cs : List Cv} {c : Cv} {D : Nat} {T : List Value} {io : Option Addr} {ic : Nat} {dv : Value} {y0 y1 y2 y3 y4 y6 y7 y8 y9 y10 y11 y12 y13 y14 y15 y16 y17 y18 y19 y20 y21 y22 y23 y24 y25 y26 y27 y28 y29 y30 y31 y32 y33 y34 y35 y36 : Value} {P : Program} {ops : Array Oper} {Q : Exit → Act → World → Prop} {i : Nat} {o : Oper} (hq : ∀ x37 x38 x39 x40 x41 x42 x43 x44 x45 x46 x47 x5 (L : Nat → Bool) (W : World), NR9 W1 w key id tg TG cs c D T io ic dv L x37 x38 x39 x40 x41 x42 x43 x44 x45 x46 x47 x5 W → L i = false → (∀ j ∈ onesOf o, L j = true) → ∀ K : Act → World → Prop, Shut (∀ a' w', INR9 W1 w key id tg TG cs c D T io ic dv y0 y1 y2 y3 y4 y6 y7 y8 y9 y10 y11 y12 y13 y14 y15 y16 y17 y18 y19 y20 y21 y22 y23 y24 y25 y26 y27 y28 y29 y30 y31 y32 y33 y34 y35 y36 (upd L i) a' w' → K a' w') → if Region.wanted o (yielded ops (⟨#[y0, y1, y2, y3, y4, x5, y6, y7, y8, y9, y10, y11, y12, y13, y14, y15, y16, y17, y18, y19, y20, y21, y22, y23, y24, y25, y26, y27, y28, y29, y30, y31, y32, y33, y34, y35, y36, x37, x38, x39, x40, x41, x42, x43, x44, x45, x46, x47], []⟩ : Act).tmps) = true then Oper.wp P o ⟨#[y0, y1, y2, y3, y4, x5, y6, y7, y8, y9, y10, y11, y12, y13, y14, y15, y16, y17, y18, y19, y20, y21, y22, y23, y24, y25, y26, y27, y28, y29, y30, y31, y32, y33, y34, y35, y36, x37, x38, x39, x40, x41, x42, x43, x44, x45, x46, x47], []⟩ W K Q else K ((⟨#[y0, y1, y2, y3, y4, x5, y6, y7, y8, y9, y10, y11, y12, y13, y14, y15, y16, y17, y18, y19, y20, y21, y22, y23, y24, y25, y26, y27, y28, y29, y30, y31, y32, y33, y34, y35, y36, x37, x38, x39, x40, x41, x42, x43, x44, x45, x46, x47], []⟩ : Act).put o.dst undef) W) : StepI P ops (INR9 W1 w key id tg TG cs c D T io ic dv y0 y1 y2 y3 y4 y6 y7 y8 y9 y10 y11 y12 y13 y14 y15 y16 y17 y18 y19 y20 y21 y22 y23 y24 y25 y26 y27 y28 y29 y30 y31 y32 y33 y34 y35 y36) Q i o := by
  rintro L a W ⟨x37, x38, x39, x40, x41, x42, x43, x44, x45, x46, x47, x5, rfl, h⟩
  exact hq _ _ _ _ _ _ _ _ _ _ _ _ _ _ h
theorem NR9.ends {W1 : World} {w : World} {key : Int} {id tg TG : List By} {cs : List Cv} {c : Cv} {D : Nat} {T : List Value} {io : Option Addr} {ic : Nat} {dv : Value} {y0 y1 y2 y3 y4 y6 y7 y8 y9 y10 y11 y12 y13 y14 y15 y16 y17 y18 y19 y20 y21 y22 y23 y24 y25 y26 y27 y28 y29 y30 y31 y32 y33 y34 y35 y36 : Value} {mm_ : Nat} {Q : Exit → Act → World → Prop} (hq : ∀ x37 x38 x39 x40 x41 x42 x43 x44 x45 x46 x47 x5 (L : Nat → Bool) (W : World), (∀ j, j < mm_ → L j = true) → NR9 W1 w key id tg TG cs c D T io ic dv L x37 x38 x39 x40 x41 x42 x43 x44 x45 x46 x47 x5 W → Q .normal ⟨#[y0, y1, y2, y3, y4, x5, y6, y7, y8, y9, y10, y11, y12, y13, y14, y15, y16, y17, y18, y19, y20, y21, y22, y23, y24, y25, y26, y27, y28, y29, y30, y31, y32, y33, y34, y35, y36, x37, x38, x39, x40, x41, x42, x43, x44, x45, x46, x47], []⟩ W) : ∀ L a' w', (∀ j, j < mm_ → L j = true) → INR9 W1 w key id tg TG cs c D T io ic dv y0 y1 y2 y3 y4 y6 y7 y8 y9 y10 y11 y12 y13 y14 y15 y16 y17 y18 y19 y20 y21 y22 y23 y24 y25 y26 y27 y28 y29 y30 y31 y32 y33 y34 y35 y36 L a' w' → Q .normal a' w' := by
  rintro L a W hall ⟨x37, x38, x39, x40, x41, x42, x43, x44, x45, x46, x47, x5, rfl, h⟩
  exact hq _ _ _ _ _ _ _ _ _ _ _ _ _ _ hall h
theorem narrowed_row (cs : List Cv) (c : Cv) : (((cs.flatMap cvC ++ (zCvs (cs.length + 1)).drop (cs.length * 5)).take (cs.length * 5)) ++ cvC c ++ (cs.flatMap cvC ++ (zCvs (cs.length + 1)).drop (cs.length * 5)).drop (cs.length * 5 + (cvC c).length)) = (cs ++ [c]).flatMap cvC := by
  have h1 : (cs.flatMap cvC).length = cs.length * 5 := flC_len cs
  have h2 : ((cs.flatMap cvC ++ (zCvs (cs.length + 1)).drop (cs.length * 5)).take (cs.length * 5)) = cs.flatMap cvC := by rw [← h1]; exact List.take_left
  have h3 : (cs.flatMap cvC ++ (zCvs (cs.length + 1)).drop (cs.length * 5)).drop (cs.length * 5 + (cvC c).length) = [] := by
    apply List.drop_of_length_le
    rw [List.length_append, h1, List.length_drop, zCvs_len]
    have : (cvC c).length = 5 := rfl
    omega
  rw [h2, h3, List.append_nil, List.flatMap_append]
  simp
set_option maxHeartbeats 2000000 in
theorem narrow_any (t : Tk) (c : Cv) (io : Option Addr) (ic : Nat) (lo : Option Addr) (lc : Nat) (w : World) (h : TkV w t io ic lo lc) (hl7 : t.cs.length ≤ 70000) (hc : c.ok) :
    Calls Tryd.prog 18 #[.agg (tkCells t io ic lo lc).toArray, .agg (cvC c).toArray] w (CNarP t c w) := by
  obtain ⟨key, id, cs, tg⟩ := t
  obtain ⟨T, hT⟩ : ∃ T, T = tkCells ⟨key, id, cs, tg⟩ io ic lo lc := ⟨_, rfl⟩
  have T0 : Hid (T[0]? = some (.int .i64 key)) := by show _ = _; rw [hT]; rfl
  have T1 : Hid (T[1]? = some (.slice io id.length ic)) := by show _ = _; rw [hT]; rfl
  have t2 : T[2]? = some (.slice lo cs.length lc) := by rw [hT]; rfl
  have T3 : Hid ((T.drop 3).take 32 = tg.map B8) := by show _ = _; rw [hT]; exact tkC_tagpart _ _ _ _ _ _ _ _ h.tag
  have TG0 : Hid (tg.length = 32) := h.tag
  obtain ⟨W1, hW1⟩ : ∃ W1, W1 = ((w.alloc (.cells T.toArray 36)).alloc (.cells (cvC c).toArray 64)).alloc (.cells zTk.toArray 36) := ⟨_, rfl⟩
  have s1 : W1.heap.size = w.heap.size + 3 := by rw [hW1]; simp
  have b1 : Below w.heap.size w W1 := by rw [hW1]; exact (((Below.refl _ _).alloc (Nat.le_refl _) _).alloc (by simp) _).alloc (by simp; omega) _
  have r1 : Row W1 w.heap.size 36 T := by rw [hW1]; exact ((Row.at w 36 T _ _ rfl rfl).alloc _).alloc _
  have r2 : Row W1 (w.heap.size + 1) 64 (cvC c) := by rw [hW1]; exact (Row.at (w.alloc (.cells T.toArray 36)) 64 (cvC c) _ _ (by simp) rfl).alloc _
  have r3 : Row W1 (w.heap.size + 2) 36 zTk := by rw [hW1]; exact Row.at _ _ _ _ _ (by simp) rfl
  rw [← hT]
  have HB1 : Hid (Below w.heap.size w W1 ∧ W1.heap.size = w.heap.size + 3) := ⟨b1, s1⟩
  have HZ0 : Hid (∀ (v : Value) (W : World), Below w.heap.size w W → TkA tk0 v w (.returned (.tuple #[.agg zTk.toArray, v])) W) := fun v W hW => ⟨none, 0, none, 0, rfl, ⟨⟨World.ownsRow_nil _ _ _ _, hW.size⟩, World.ownsRow_nil _ _ _ _, rfl, fun c hc => (by cases hc), by show 0 ≤ _; omega⟩⟩
  have c2 := r1.cell 2 _ t2
  by_cases h32 : 32 ≤ cs.length
  · have h32' : (32 : Int) ≤ (cs.length : Int) := by omega
    have d32 : decide (32 ≤ cs.length) = true := decide_eq_true h32
    have HC : Hid (32 ≤ cs.length) := h32
    have R3 : Hid (Row W1 (w.heap.size + 2) 36 zTk) := r3
    clear h r1 r2 r3 hT t2 b1 s1
    go_enter Tryd.func18, Tryd.ntmps18
    go_wp2_with (first
      | (have hz := hW1; clear hz; refine wpList_at24 hW1 ?_; clear hW1)
      | (have hz := R3; clear hz; refine wpList_store_Row rfl 36 _ _ rfl (w.heap.size + 2) 36 0 zTk zTk R3.out (Nat.le_refl _) rfl rfl (by kernel_rfl) (tkC_one _ _ _ _ _ _ _ _) ?_; intro w2 hr2 hs2; clear R3))
    have q2 := row_whole hr2 (by simp)
    refine bodyPost_ret_by (results_rowtmp Tryd.results18 _ w2 (w.heap.size + 2) 36 _ _ rfl q2 Tryd.underlying36 rfl (by kernel_rfl)) rfl ?_
    have hb2 := hs2.below HB1.out.1 (by omega)
    exact ⟨hb2, by rw [if_pos HC.out]; exact HZ0.out _ _ hb2⟩
  have h32' : ¬ (32 : Int) ≤ (cs.length : Int) := by omega
  have d32 : decide (32 ≤ cs.length) = false := decide_eq_false h32
  have HC : Hid (¬ 32 ≤ cs.length) := h32
  obtain ⟨q, hq⟩ : ∃ q, q = cvMay c := ⟨_, rfl⟩
  have HQ : Hid (q = cvMay c) := hq
  have FD : Hid (∀ W, Calls Tryd.prog 28 #[.agg (cvC c).toArray] W fun e w' => e = .returned (.tuple #[if q = true then dmV c else .nilIface, .bool q]) ∧ Below W.heap.size W w') := fun W => by rw [hq]; exact dem_any c hc W
  cases q with
  | false =>
    have R2 : Hid (Row W1 (w.heap.size + 1) 64 (cvC c)) := r2
    have R3 : Hid (∀ W, Below W1.heap.size W1 W → Row W (w.heap.size + 2) 36 zTk ∧ Below w.heap.size w W) := fun W hW => ⟨r3.below hW r3.lt, b1.trans (hW.mono b1.size)⟩
    clear h r1 r2 r3 hT t2 b1 s1 hq
    go_enter Tryd.func18, Tryd.ntmps18
    go_wp2_with (first
      | (have hz := hW1; clear hz; refine wpList_at24 hW1 ?_; clear hW1)
      | (have hz := FD; clear hz; refine wpList_load_Row rfl 64 (.tmp 3) rfl (w.heap.size + 1) 64 (cvC c) R2.out rfl _ Tryd.underlying64 rfl (by kernel_rfl) ?_)
      | (go_at_call 28; refine (FD.out _).mono ?_; rintro e w2 ⟨rfl, hb2⟩; have R4 : Hid (Row w2 (w.heap.size + 2) 36 zTk ∧ Below w.heap.size w w2) := R3.out w2 hb2; clear FD R3 hb2)
      | (have hz := R4; clear hz; refine wpList_store_Row rfl 36 _ _ rfl (w.heap.size + 2) 36 0 zTk zTk R4.out.1 (Nat.le_refl _) rfl rfl (by kernel_rfl) (tkC_one _ _ _ _ _ _ _ _) ?_; intro w3 hr3 hs3; have HB3 : Hid (Below w.heap.size w w3) := hs3.below R4.out.2 (by omega); clear R4))
    have q3 := row_whole hr3 (by simp)
    refine bodyPost_ret_by (results_rowtmp Tryd.results18 _ w3 (w.heap.size + 2) 36 _ _ rfl q3 Tryd.underlying36 rfl (by kernel_rfl)) rfl ?_
    exact ⟨HB3.out, by rw [if_neg HC.out, if_neg (by rw [← HQ.out]; simp)]; exact HZ0.out _ _ HB3.out⟩
  | true =>
    have R2 : Hid (Row W1 (w.heap.size + 1) 64 (cvC c)) := r2
    have HA : Hid (∀ W, Below W1.heap.size W1 W → Row W w.heap.size 36 T ∧ Row W (w.heap.size + 1) 64 (cvC c) ∧ Row W (w.heap.size + 2) 36 zTk ∧ Below w.heap.size w W ∧ CvsIn W lo cs ∧ w.heap.size + 3 ≤ W.heap.size) := fun W hW => ⟨r1.below hW r1.lt, r2.below hW r2.lt, r3.below hW r3.lt, b1.trans (hW.mono b1.size), h.cs.keep (b1.trans (hW.mono b1.size)), by have := hW.size; omega⟩
    have HLN : Hid (lo = none → lc = 0) := h.lnil
    have FC : Hid (∀ W, Below w.heap.size w W → Calls Tryd.prog 26 #[.slice io id.length ic] W fun e w' => e = .returned (.slice (some ⟨W.heap.size, 0, none⟩) id.length id.length) ∧ Own W.heap.size w' (.slice (some ⟨W.heap.size, 0, none⟩) id.length id.length) id ∧ Below W.heap.size W w') := fun W hW => tcopied_any io id.length ic id rfl W (h.id.below hW (Nat.le_refl _)) (by have := h.big; have h9 : id.length ≤ 140737488351232 := this; omega)
    have FN : Hid (∀ W, Calls Tryd.prog 38 #[.agg (tg.map B8).toArray, dmV c] W fun e w' => e = .returned (.agg ((tag tg (cvB c)).map B8).toArray) ∧ Below W.heap.size W w') := fun W => next_any tg h.tag c hc hq.symm W
    have TG32 : Hid ((tag tg (cvB c)).length = 32) := tag_len _ _
    have T2 : Hid (T[2]? = some (.slice lo cs.length lc)) := t2
    have HIT : Hid (∀ W D B, Below w.heap.size w W → w.heap.size + 3 ≤ D → Row W D 64 ((cs ++ [c]).flatMap cvC) → Own (w.heap.size + 3) W (.slice (some ⟨B, 0, none⟩) id.length id.length) id → CNarP ⟨key, id, cs, tg⟩ c w (.returned (.tuple #[.agg (tkC key (some ⟨B, 0, none⟩) id.length id.length (some ⟨D, 0, none⟩) (cs.length + 1) (cs.length + 1) (tag tg (cvB c))).toArray, .int .i64 0])) W) := fun W D B hW hD hr ho => ⟨hW, by
      rw [if_neg HC.out, if_pos HQ.out.symm]
      have hl : (cs ++ [c]).length = cs.length + 1 := by simp
      have hoc := owns_cvs (N := w.heap.size) hr (by omega) (by rw [hl]; show cs.length + 1 ≤ _; have h9 : cs.length ≤ 70000 := hl7; omega)
      refine ⟨some ⟨B, 0, none⟩, id.length, some ⟨D, 0, none⟩, cs.length + 1, ?_, ⟨own_le ho (by omega), ?_, tag_len _ _, fun d hd => ?_, h.big⟩⟩
      · unfold tkCells; rw [hl]
      · rw [hl] at hoc ⊢; exact hoc
      · rcases List.mem_append.1 hd with hd | hd
        · exact h.ok d hd
        · rw [List.mem_singleton.1 hd]; exact hc⟩
    have hm1 : IntKind.i64.wrap ((cs.length : Int) + 1) = (cs.length : Int) + 1 := i64_in _ (by omega) (by omega)
    have HNR : Hid (((cs.flatMap cvC ++ (zCvs (cs.length + 1)).drop (cs.length * 5)).take (cs.length * 5)) ++ cvC c ++ (cs.flatMap cvC ++ (zCvs (cs.length + 1)).drop (cs.length * 5)).drop (cs.length * 5 + (cvC c).length) = (cs ++ [c]).flatMap cvC) := narrowed_row cs c
    have y0 : (0 : Int) ≤ (cs.length : Int) := by omega
    have y1 : (cs.length : Int) < (cs.length : Int) + 1 := by omega
    clear h r1 r2 r3 hT t2 b1 s1 hq hc
    generalize tag tg (cvB c) = TG at *
    generalize dmV c = dv at *
    go_enter Tryd.func18, Tryd.ntmps18
    go_upto_region 9 with (first
      | (have hz := hW1; clear hz; refine wpList_at24 hW1 ?_; clear hW1)
      | (have hz := FD; clear hz; refine wpList_load_Row rfl 64 (.tmp 3) rfl (w.heap.size + 1) 64 (cvC c) R2.out rfl _ Tryd.underlying64 rfl (by kernel_rfl) ?_)
      | (go_at_call 28; refine (FD.out _).mono ?_; rintro e w2 ⟨rfl, hb2⟩; have H2 : Hid (Below W1.heap.size W1 w2) := hb2; have cc2 := (HA.out w2 hb2).1.cell 2 _ T2.out; clear FD c2 hb2 R2)
      | (have hz := H2; clear hz; refine wpList_make_cvsN rfl (.tmp 25) (.tmp 25) rfl (cs.length + 1) ((cs.length : Int) + 1) rfl rfl (by simp) (by omega) ?_; intro w3 hr3 hb3 hz3; have H3 : Hid (Below W1.heap.size W1 w3 ∧ Row w3 w2.heap.size 64 (zCvs (cs.length + 1)) ∧ W1.heap.size ≤ w2.heap.size) := ⟨H2.out.trans (hb3.mono H2.out.size), hr3, H2.out.size⟩; clear cc2 hr3 hb3 hz3 H2; have cc3 := (HA.out w3 H3.out.1).1.cell 2 _ T2.out)
      | (have hz := H3; clear hz; refine wpList_copy_cvs rfl (.tmp 27) (.tmp 29) rfl w2.heap.size (cs.length + 1) (cs.length + 1) lo lc cs cs.length rfl rfl rfl (by omega) (zCvs (cs.length + 1)) H3.out.2.1 (by rw [zCvs_len]; omega) (HA.out w3 H3.out.1).2.2.2.2.1 HLN.out ?_; intro w4 hr4 hs4; have H4 : Hid (Below W1.heap.size W1 w4 ∧ Row w4 w2.heap.size 64 (cs.flatMap cvC ++ (zCvs (cs.length + 1)).drop (cs.length * 5)) ∧ W1.heap.size ≤ w2.heap.size) := ⟨hs4.below H3.out.1 H3.out.2.2, hr4, H3.out.2.2⟩; clear cc3 hr4 hs4 H3; have cc4 := (HA.out w4 H4.out.1).1.cell 2 _ T2.out)
      | (have hz := H4; clear hz; refine wpList_load_Row rfl 64 (.tmp 3) rfl (w.heap.size + 1) 64 (cvC c) (HA.out w4 H4.out.1).2.1 rfl _ Tryd.underlying64 rfl (by kernel_rfl) ?_)
      | (have hz := H4; clear hz; refine wpList_store_Row rfl 64 (.tmp 36) (.tmp 35) rfl w2.heap.size 64 (cs.length * 5) (cs.flatMap cvC ++ (zCvs (cs.length + 1)).drop (cs.length * 5)) (cvC c) H4.out.2.1 (by rw [List.length_append, List.length_drop, flC_len, zCvs_len]; show _ + 5 ≤ _; omega) rfl rfl (by kernel_rfl) (cvC_one c) ?_; intro w9 hr9 hs9; have H9 : Hid (Below W1.heap.size W1 w9 ∧ Row w9 w2.heap.size 64 ((cs ++ [c]).flatMap cvC) ∧ W1.heap.size ≤ w2.heap.size) := ⟨hs9.below H4.out.1 H4.out.2.2, by rw [← HNR.out]; exact hr9, H4.out.2.2⟩; clear cc4 hr9 hs9 H4))
    try dsimp only [Act.put]
    have HS9 : Hid (∀ a b, NW9 w key id TG cs c w2.heap.size T false false false a b w9.drew) := fun a b => by
      have hz := H9.out
      have hs := HB1.out.2
      have hA := HA.out w9 hz.1
      exact ⟨hA.2.2.2.1.drew, hA.2.2.2.2.2, by omega, fun e => (by cases e), fun e => (by cases e), hA.1.drew, hz.2.1.drew, fun _ => hA.2.2.1.drew, fun e => (by cases e)⟩
    clear H9 HA HLN
    generalize w2.heap.size = D at *
    refine wp_region_inv (INR9 w9 w key id tg TG cs c D T io ic dv _ _ _ _ _ _ _ _ _ _ _ _ _ _ _ _ _ _ _ _ _ _ _ _ _ _ _ _ _ _ _ _ _ _ _ _) (by kernel_rfl) (by kernel_rfl) ⟨_, _, _, _, _, _, _, _, _, _, _, _, rfl, ⟨HS9.out _ _, fun k => (by cases k), fun k => (by cases k), fun k => (by cases k), fun k => (by cases k), fun k => (by cases k), fun k => (by cases k), fun k => (by cases k), fun k => (by cases k), fun k => (by cases k), fun k => (by cases k)⟩⟩ ?_ ?_
    · refine .cons ?_ (.cons ?_ (.cons ?_ (.cons ?_ (.cons ?_ (.cons ?_ (.cons ?_ (.cons ?_ (.cons ?_ (.cons ?_ (.cons ?_ (.cons ?_ (.cons ?_ .nil))))))))))))
      all_goals (refine NR9.step ?_; intro x37 x38 x39 x40 x41 x42 x43 x44 x45 x46 x47 x5 L W hI hL hd K hK)
      · rw [if_pos (by rfl)]
        go_simp
        exact hK.out _ _ ⟨_, _, _, _, _, _, _, _, _, _, _, _, rfl, hI.s0⟩
      · have hx0 := hI.p0 (hd 0 (by decide))
        subst hx0
        rw [if_pos (by rfl)]
        have hc := hI.x.box.cell 0 _ T0.out
        go_simp
        exact hK.out _ _ ⟨_, _, _, _, _, _, _, _, _, _, _, _, rfl, hI.s1⟩
      · rw [if_pos (by rfl)]
        go_simp
        exact hK.out _ _ ⟨_, _, _, _, _, _, _, _, _, _, _, _, rfl, hI.s2⟩
      · have hx2 := hI.p2 (hd 2 (by decide))
        subst hx2
        rw [if_pos (by rfl)]
        have hc := hI.x.box.cell 1 _ T1.out
        go_simp
        exact hK.out _ _ ⟨_, _, _, _, _, _, _, _, _, _, _, _, rfl, hI.s3⟩
      · have hx3 := hI.p3 (hd 3 (by decide))
        subst hx3
        rw [if_pos (by rfl)]
        go_simp
        refine (FC.out _ hI.x.bel).mono ?_
        rintro e W2 ⟨rfl, ho2, hb2⟩
        go_simp
        have hX := hI.x.s4 hL ho2 hb2
        exact hK.out _ _ ⟨_, _, _, _, _, _, _, _, _, _, _, _, rfl, hI.s4 hX⟩
      · rw [if_pos (by rfl)]
        go_simp
        exact hK.out _ _ ⟨_, _, _, _, _, _, _, _, _, _, _, _, rfl, hI.s5⟩
      · rw [if_pos (by rfl)]
        go_simp
        exact hK.out _ _ ⟨_, _, _, _, _, _, _, _, _, _, _, _, rfl, hI.s6⟩
      · have hx6 := hI.p6 (hd 6 (by decide))
        subst hx6
        refine step_load_part (by rfl) 26 _ rfl w.heap.size 3 36 32 T hI.x.box rfl _ (tg.map B8) T3.out (by rw [List.length_map, TG0.out]) Tryd.underlying26 rfl (by kernel_rfl) ?_
        exact hK.out _ _ ⟨_, _, _, _, _, _, _, _, _, _, _, _, rfl, hI.s7⟩
      · rw [if_pos (by rfl)]
        go_simp
        exact hK.out _ _ ⟨_, _, _, _, _, _, _, _, _, _, _, _, rfl, hI.s8⟩
      · have hx7 := hI.p7 (hd 7 (by decide))
        subst hx7
        have hx8 := hI.p8 (hd 8 (by decide))
        subst hx8
        rw [if_pos (by rfl)]
        go_simp
        refine (FN.out W).mono ?_
        rintro e W2 ⟨rfl, hb2⟩
        go_simp
        have hX := hI.x.keep hb2
        exact hK.out _ _ ⟨_, _, _, _, _, _, _, _, _, _, _, _, rfl, hI.s9 hX⟩
      · have hx1 := hI.p1 (hd 1 (by decide))
        subst hx1
        have hx5 := hI.p5 (hd 5 (by decide))
        subst hx5
        have hx9 := hI.p9 (hd 9 (by decide))
        subst hx9
        have h4 := hd 4 (by decide)
        obtain ⟨B4, u41, _, _, _⟩ := hI.x.p4 h4
        have hX := hI.x.s10 h4 hL u41
        refine step_build4 (by rfl) 36 0 1 2 3 (.tmp 38) (.tmp 41) (.tmp 42) (.tmp 46) rfl (.int .i64 key) (.slice (some ⟨B4, 0, none⟩) id.length id.length) (.slice (some ⟨D, 0, none⟩) (cs.length + 1) (cs.length + 1)) (.agg (TG.map B8).toArray) _ rfl u41 rfl rfl (build_tk4 key (some ⟨B4, 0, none⟩) id.length id.length (some ⟨D, 0, none⟩) (cs.length + 1) (cs.length + 1) W TG TG32.out) ?_
        exact hK.out _ _ ⟨_, _, _, _, _, _, _, _, _, _, _, _, rfl, hI.s10 hX⟩
      · have h10 := hd 10 (by decide)
        obtain ⟨B4, u41, _, u47, _⟩ := hI.x.p4 (hI.x.c10 h10)
        refine step_store_Row rfl 36 (.tmp 4) (.tmp 47) rfl (w.heap.size + 2) 36 zTk (tkC key (some ⟨B4, 0, none⟩) id.length id.length (some ⟨D, 0, none⟩) (cs.length + 1) (cs.length + 1) TG) (hI.x.res hL) (by rw [tkC_len TG32.out]; rfl) rfl (u47 h10) (by rw [tkC_len TG32.out]; kernel_rfl) (tkC_one _ _ _ _ _ _ _ _) ?_
        intro W2 hr2 hs2
        have hX := hI.x.s11 h10 hL u41 hr2 hs2
        exact hK.out _ _ ⟨_, _, _, _, _, _, _, _, _, _, _, _, rfl, hI.s11 hX⟩
      · rw [if_pos (by rfl)]
        go_simp
        exact hK.out _ _ ⟨_, _, _, _, _, _, _, _, _, _, _, _, rfl, hI.s12⟩
    · refine NR9.ends ?_; intro x37 x38 x39 x40 x41 x42 x43 x44 x45 x46 x47 x5 L W hall hI
      have hx0 := hI.p0 (hall 0 (by decide))
      subst hx0
      have hx1 := hI.p1 (hall 1 (by decide))
      subst hx1
      have hx2 := hI.p2 (hall 2 (by decide))
      subst hx2
      have hx3 := hI.p3 (hall 3 (by decide))
      subst hx3
      have hx5 := hI.p5 (hall 5 (by decide))
      subst hx5
      have hx6 := hI.p6 (hall 6 (by decide))
      subst hx6
      have hx7 := hI.p7 (hall 7 (by decide))
      subst hx7
      have hx8 := hI.p8 (hall 8 (by decide))
      subst hx8
      have hx9 := hI.p9 (hall 9 (by decide))
      subst hx9
      have hx12 := hI.p12 (hall 12 (by decide))
      subst hx12
      have hXe := hI.x
      rw [hall 4 (by decide)] at hXe
      rw [hall 10 (by decide)] at hXe
      rw [hall 11 (by decide)] at hXe
      clear hI hall
      try dsimp only
      obtain ⟨B4, u41, o41, _, r41⟩ := hXe.p4 rfl
      have q2 := r41 rfl
      have hF := HIT.out W D B4 hXe.bel hXe.hD hXe.cav o41
      clear hXe
      go_wp2
      refine bodyPost_ret_by (results_rowtmp Tryd.results18 _ W (w.heap.size + 2) 36 _ _ rfl q2 Tryd.underlying36 rfl (by rw [tkC_len TG32.out]; kernel_rfl)) rfl ?_
      exact hF
end Go.Proofs.YtjooabgjkjnhhaaDoor
