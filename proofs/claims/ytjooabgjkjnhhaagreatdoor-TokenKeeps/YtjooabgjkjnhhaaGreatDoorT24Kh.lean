
import Derived.Test.YtjooabgjkjnhhaaGreatDoorT24Kg
/-! TokenKeeps: one token's two rows, written over and grown. -/
namespace Go.Proofs.YtjooabgjkjnhhaaGreatDoor
open Go.RowKit
set_option linter.unusedVariables false
set_option linter.unusedSimpArgs false
set_option maxRecDepth 100000

theorem wpList_append_just24 {T e size bytes : Nat} {z : Value} (E : ElT T e size bytes z) {ops : Array Oper} {rest : List Oper} {o : Oper} {a : Act} {w : World} {Q : Exit → Act → World → Prop} (hgd : o.guard = none) (s x : Operand)
    (ho : o.op = .call { callee := .builtin .append, args := #[s, x], argTypes := #[T, T] })
    (N : Nat) (a0 : World) (aoD : Option Addr) (nD capD : Nat) (vs : List Value) (hs : a.eval s = .slice aoD nD capD) (hown : w.ownsRow N e size (.slice aoD nD capD) nD vs) (hN : N ≤ w.heap.size) (hbel : Below N a0 w)
    (B off n cap : Nat) (news : List Value) (hx : a.eval x = .slice (some ⟨B, off, none⟩) n cap) (hn : news.length = n * size) (hc : ∀ j u, news[j]? = some u → w.cell? ⟨B, off + j, none⟩ = some u) (hn0 : 0 < n) (h1 : ∀ u ∈ news, u.oneCell' = true) (hm : nD + n ≤ maxLen) (hl : (nD + n) * bytes ≤ 140737488355328)
    (h : ∀ ao' cap' w', w'.ownsRow N e size (.slice ao' (nD + n) cap') (nD + n) (vs ++ news) → Below N a0 w' → w.heap.size ≤ w'.heap.size → (∀ k, k < w.heap.size → (∀ g, aoD = some ⟨g, 0, none⟩ → k ≠ g) → w'.heap[k]? = w.heap[k]?) → (ao' = aoD ∨ (ao' = some ⟨w.heap.size, 0, none⟩ ∧ Below w.heap.size w w' ∧ w.heap.size < w'.heap.size)) → wpList Tryz.prog ops Q rest (a.put o.dst (.slice ao' (nD + n) cap')) w') : wpList Tryz.prog ops Q (o :: rest) a w := by
  refine wpList_plain hgd fun K hK => ?_
  obtain ⟨ao', cap', w', hrun, h2, h3, h4, h5⟩ := run_append_gen E N a0 w o.type aoD nD capD vs hown hN hbel (some ⟨B, off, none⟩) n cap news hn (.inr ⟨B, off, rfl, hc⟩) h1 (by simp) hm hl
  have hwh := append_where E N w o.type aoD nD capD vs hown ⟨B, off, none⟩ n cap news hn (fun j u hu => by rw [Addr.add_mid]; exact hc j u hu) h1 hn0 hm hl ao' _ cap' w' hrun
  unfold Oper.wp execOp
  simp only [ho, resolve, invoke, builtin, Sem.run_bind, Sem.run_pure, Result.andThen_ok, List.map_toArray, List.map_cons, List.map_nil, hs, hx, hrun]
  exact hK _ _ (h ao' cap' w' h2 h3 h4 h5 (hwh.imp (·.1) id))
/-- What was told: a token, and where its lists lie. -/
structure Te where
  x : Tk
  io : Option Addr
  ic : Nat
  lo : Option Addr
  lc : Nat
def Te.cells (r : Te) : List Value := tkCells r.x r.io r.ic r.lo r.lc
def mB (j : Nat) : List Value := [.int .u8 ((j : Int) + 1)]
def mC (j : Nat) : List Value := [.int .i64 (-1 - (j : Int)), .int .i64 0, .int .i64 0, .int .i64 0, .int .u64 0]
theorem ty_ne {w : World} {g k : Nat} {c1 c2 : Array Value} {t1 t2 : Nat} {f1 f2 : Nat × Nat} (h1 : w.heap[g]? = some (.cells c1 t1 f1)) (h2 : w.heap[k]? = some (.cells c2 t2 f2)) (hne : t1 ≠ t2) : g ≠ k := by
  rintro rfl
  rw [h1] at h2
  injection h2 with h2
  injection h2 with _ h3 _
  exact hne h3
/-- While a token's rows are written over: i the bytes', cv the caveats' content. -/
structure RS (N : Nat) (W0 : World) (r : Te) (gu : Nat) (IL CL : List Value) (W : World) : Prop where
  bel : Below N W0 W
  u : Row W gu 40 r.cells
  hi : W.ownsRow N 5 1 (.slice r.io r.x.id.length r.ic) r.x.id.length IL
  hc : W.ownsRow N 52 5 (.slice r.lo r.x.cs.length r.lc) r.x.cs.length CL
  chg : ∀ k, k < W0.heap.size → r.io ≠ some ⟨k, 0, none⟩ → r.lo ≠ some ⟨k, 0, none⟩ → W.heap[k]? = W0.heap[k]?
  hg : W0.heap.size ≤ gu
  sz : W0.heap.size ≤ W.heap.size
theorem RS.setI {N : Nat} {W0 : World} {r : Te} {gu : Nat} {IL CL IL2 : List Value} {W W2 : World} (h : RS N W0 r gu IL CL W) {g : Nat} (hg : r.io = some ⟨g, 0, none⟩) (hN : N ≤ g) (ho : W2.ownsRow N 5 1 (.slice r.io r.x.id.length r.ic) r.x.id.length IL2) (hs : SameBut g W W2) : RS N W0 r gu IL2 CL W2 := by
  obtain ⟨c1, f1, t1⟩ := own_tyb h.hi g 0 hg
  refine ⟨hs.below h.bel hN, h.u.but hs (Ne.symm (ty_ne t1 h.u (by decide))), ho, owns_blk24 h.hc fun B off e => hs.block B ?_, fun k hk h1 h2 => (hs.block k (fun e => h1 (by rw [hg, e]))).trans (h.chg k hk h1 h2), h.hg, by rw [hs.size]; exact h.sz⟩
  obtain ⟨c2, f2, t2⟩ := own_tyb h.hc B off e
  exact Ne.symm (ty_ne t1 t2 (by decide))
theorem RS.setC {N : Nat} {W0 : World} {r : Te} {gu : Nat} {IL CL CL2 : List Value} {W W2 : World} (h : RS N W0 r gu IL CL W) {g : Nat} (hg : r.lo = some ⟨g, 0, none⟩) (hN : N ≤ g) (ho : W2.ownsRow N 52 5 (.slice r.lo r.x.cs.length r.lc) r.x.cs.length CL2) (hs : SameBut g W W2) : RS N W0 r gu IL CL2 W2 := by
  obtain ⟨c1, f1, t1⟩ := own_tyb h.hc g 0 hg
  refine ⟨hs.below h.bel hN, h.u.but hs (Ne.symm (ty_ne t1 h.u (by decide))), owns_blk24 h.hi fun B off e => hs.block B ?_, ho, fun k hk h1 h2 => (hs.block k (fun e => h2 (by rw [hg, e]))).trans (h.chg k hk h1 h2), h.hg, by rw [hs.size]; exact h.sz⟩
  obtain ⟨c2, f2, t2⟩ := own_tyb h.hi B off e
  exact Ne.symm (ty_ne t1 t2 (by decide))
/-- While they are grown: by ti bytes, by tc caveats. -/
structure G5 (N : Nat) (W0 : World) (r : Te) (gu j ti tc : Nat) (ao : Option Addr) (c : Nat) (bo : Option Addr) (d : Nat) (W : World) : Prop where
  bel : Below N W0 W
  u : Row W gu 40 (tkC r.x.key ao (r.x.id.length + ti) c bo (r.x.cs.length + tc) d r.x.tag)
  gi : Gw 5 1 (mB j) N r.io r.x.id.length W0 ti ao c W
  gc : Gw 52 5 (mC j) N r.lo r.x.cs.length W0 tc bo d W
  chg : ∀ k, k < W0.heap.size → r.io ≠ some ⟨k, 0, none⟩ → r.lo ≠ some ⟨k, 0, none⟩ → W.heap[k]? = W0.heap[k]?
  hg : W0.heap.size ≤ gu
  sz : W0.heap.size ≤ W.heap.size
  hN : N ≤ W0.heap.size
  li : ∀ B off, r.io = some ⟨B, off, none⟩ → off = 0 ∧ B < W0.heap.size
  lc : ∀ B off, r.lo = some ⟨B, off, none⟩ → off = 0 ∧ B < W0.heap.size
/-- What an append and the variable's store change. -/
theorem G5.blk {N : Nat} {W0 : World} {r : Te} {gu j ti tc : Nat} {ao : Option Addr} {c : Nat} {bo : Option Addr} {d : Nat} {w w2 : World} {o : Obj} {e : Nat} {xo : Option Addr} (hx : TyB e w xo) (h3 : ∀ k, k < (w.alloc o).heap.size → (∀ g, xo = some ⟨g, 0, none⟩ → k ≠ g) → w2.heap[k]? = (w.alloc o).heap[k]?) (B : Nat) (cur : Array Value) (t' : Nat) (fz : Nat × Nat) (hB : w.heap[B]? = some (.cells cur t' fz)) (hne : t' ≠ e) : w2.heap[B]? = w.heap[B]? := by
  have hlt : B < w.heap.size := (Array.getElem?_eq_some_iff.1 hB).1
  refine (h3 B (by simp; omega) fun g hg => ?_).trans (Below.heap_alloc w o B hlt)
  rintro rfl
  obtain ⟨c1, f1, t1⟩ := hx B 0 hg
  rw [hB] at t1
  injection t1 with t1
  injection t1 with _ t2 _
  exact hne t2
theorem set_blk {w : World} {g i : Nat} {v : Value} {cs : List Value} (hr : Row w g 40 cs) (B : Nat) (cur : Array Value) (t' : Nat) (fz : Nat × Nat) (hB : w.heap[B]? = some (.cells cur t' fz)) (hne : t' ≠ 40) : (w.setCell ⟨g, i, none⟩ v).heap[B]? = w.heap[B]? :=
  (SameBut.setCell g i v w).block B (ty_ne hB hr hne)
theorem G5.appI {N : Nat} {W0 : World} {r : Te} {gu j ti tc : Nat} {ao : Option Addr} {c : Nat} {bo : Option Addr} {d : Nat} {w w2 : World} {o : Obj} {ao' : Option Addr} {c' : Nat} (h : G5 N W0 r gu j ti tc ao c bo d w)
    (h1 : w2.ownsRow N 5 1 (.slice ao' (r.x.id.length + ti + 1) c') (r.x.id.length + ti + 1) (rep (r.x.id.length + ti) (mB j) ++ mB j)) (h2 : Below N (w.alloc o) w2) (hz : (w.alloc o).heap.size ≤ w2.heap.size) (h3 : ∀ k, k < (w.alloc o).heap.size → (∀ g, ao = some ⟨g, 0, none⟩ → k ≠ g) → w2.heap[k]? = (w.alloc o).heap[k]?) (h4 : ao' = ao ∨ (ao' = some ⟨(w.alloc o).heap.size, 0, none⟩ ∧ Below (w.alloc o).heap.size (w.alloc o) w2 ∧ (w.alloc o).heap.size < w2.heap.size)) :
    G5 N W0 r gu j (ti + 1) tc ao' c' bo d (w2.setCell ⟨gu, 1, none⟩ (.slice ao' (r.x.id.length + ti + 1) c')) ∧ Row w2 gu 40 (tkC r.x.key ao (r.x.id.length + ti) c bo (r.x.cs.length + tc) d r.x.tag) := by
  have ha : (w.alloc o).heap.size = w.heap.size + 1 := by simp
  have hsz := h.sz
  have hg := h.hg
  have hN := h.hN
  have hx := own_tyb h.gi.own
  have hu2 : Row w2 gu 40 (tkC r.x.key ao (r.x.id.length + ti) c bo (r.x.cs.length + tc) d r.x.tag) := (G5.blk (r := r) (W0 := W0) (N := N) (gu := gu) (j := j) (ti := ti) (tc := tc) (ao := ao) (c := c) (bo := bo) (d := d) hx h3 gu _ _ _ h.u (by decide)).trans h.u
  have hw1 : ∀ (B : Nat) (cur : Array Value) (fz : Nat × Nat), w.heap[B]? = some (.cells cur 5 fz) → (w.alloc o).heap[B]? = w.heap[B]? := fun B cur fz hB => Below.heap_alloc w o B (Array.getElem?_eq_some_iff.1 hB).1
  have gi2 : Gw 5 1 (mB j) N r.io r.x.id.length W0 (ti + 1) ao' c' w2 := h.gi.step (w1 := w.alloc o) (by omega) hw1 (fun B off e => ⟨(h.li B off e).1, by have := (h.li B off e).2; omega⟩) h1 h3 h4
  have gc2 : Gw 52 5 (mC j) N r.lo r.x.cs.length W0 tc bo d w2 := h.gc.keepT fun B cur fz hB => G5.blk (r := r) (W0 := W0) (N := N) (gu := gu) (j := j) (ti := ti) (tc := tc) (ao := ao) (c := c) (bo := bo) (d := d) hx h3 B cur _ fz hB (by decide)
  have hs := SameBut.setCell gu 1 (.slice ao' (r.x.id.length + ti + 1) c') w2
  refine ⟨⟨hs.below ((h.bel.trans ((Below.refl N w).alloc (by omega) o)).trans h2) (by omega), ?_, gi2.keepT fun B cur fz hB => set_blk hu2 B cur _ fz hB (by decide), gc2.keepT fun B cur fz hB => set_blk hu2 B cur _ fz hB (by decide), fun k hk k1 k2 => ?_, h.hg, by rw [hs.size]; omega, h.hN, h.li, h.lc⟩, hu2⟩
  · have := hu2.set 1 (.slice ao' (r.x.id.length + ti + 1) c')
    exact this
  · refine (hs.block k (by omega)).trans ((h3 k (by omega) fun g e => ?_).trans ((Below.heap_alloc w o k (by omega)).trans (h.chg k hk k1 k2)))
    rcases h.gi.pl with e2 | ⟨g2, e2, hg2⟩
    · rintro rfl; exact k1 (by rw [← e2, e])
    · rw [e2] at e; injection e with e; injection e with e; omega
theorem G5.appC {N : Nat} {W0 : World} {r : Te} {gu j ti tc : Nat} {ao : Option Addr} {c : Nat} {bo : Option Addr} {d : Nat} {w w2 : World} {o : Obj} {bo' : Option Addr} {d' : Nat} (h : G5 N W0 r gu j ti tc ao c bo d w)
    (h1 : w2.ownsRow N 52 5 (.slice bo' (r.x.cs.length + tc + 1) d') (r.x.cs.length + tc + 1) (rep (r.x.cs.length + tc) (mC j) ++ mC j)) (h2 : Below N (w.alloc o) w2) (hz : (w.alloc o).heap.size ≤ w2.heap.size) (h3 : ∀ k, k < (w.alloc o).heap.size → (∀ g, bo = some ⟨g, 0, none⟩ → k ≠ g) → w2.heap[k]? = (w.alloc o).heap[k]?) (h4 : bo' = bo ∨ (bo' = some ⟨(w.alloc o).heap.size, 0, none⟩ ∧ Below (w.alloc o).heap.size (w.alloc o) w2 ∧ (w.alloc o).heap.size < w2.heap.size)) :
    G5 N W0 r gu j ti (tc + 1) ao c bo' d' (w2.setCell ⟨gu, 2, none⟩ (.slice bo' (r.x.cs.length + tc + 1) d')) ∧ Row w2 gu 40 (tkC r.x.key ao (r.x.id.length + ti) c bo (r.x.cs.length + tc) d r.x.tag) := by
  have ha : (w.alloc o).heap.size = w.heap.size + 1 := by simp
  have hsz := h.sz
  have hg := h.hg
  have hN := h.hN
  have hx := own_tyb h.gc.own
  have hu2 : Row w2 gu 40 (tkC r.x.key ao (r.x.id.length + ti) c bo (r.x.cs.length + tc) d r.x.tag) := (G5.blk (r := r) (W0 := W0) (N := N) (gu := gu) (j := j) (ti := ti) (tc := tc) (ao := ao) (c := c) (bo := bo) (d := d) hx h3 gu _ _ _ h.u (by decide)).trans h.u
  have hw1 : ∀ (B : Nat) (cur : Array Value) (fz : Nat × Nat), w.heap[B]? = some (.cells cur 52 fz) → (w.alloc o).heap[B]? = w.heap[B]? := fun B cur fz hB => Below.heap_alloc w o B (Array.getElem?_eq_some_iff.1 hB).1
  have gc2 : Gw 52 5 (mC j) N r.lo r.x.cs.length W0 (tc + 1) bo' d' w2 := h.gc.step (w1 := w.alloc o) (by omega) hw1 (fun B off e => ⟨(h.lc B off e).1, by have := (h.lc B off e).2; omega⟩) h1 h3 h4
  have gi2 : Gw 5 1 (mB j) N r.io r.x.id.length W0 ti ao c w2 := h.gi.keepT fun B cur fz hB => G5.blk (r := r) (W0 := W0) (N := N) (gu := gu) (j := j) (ti := ti) (tc := tc) (ao := ao) (c := c) (bo := bo) (d := d) hx h3 B cur _ fz hB (by decide)
  have hs := SameBut.setCell gu 2 (.slice bo' (r.x.cs.length + tc + 1) d') w2
  refine ⟨⟨hs.below ((h.bel.trans ((Below.refl N w).alloc (by omega) o)).trans h2) (by omega), ?_, gi2.keepT fun B cur fz hB => set_blk hu2 B cur _ fz hB (by decide), gc2.keepT fun B cur fz hB => set_blk hu2 B cur _ fz hB (by decide), fun k hk k1 k2 => ?_, h.hg, by rw [hs.size]; omega, h.hN, h.li, h.lc⟩, hu2⟩
  · have := hu2.set 2 (.slice bo' (r.x.cs.length + tc + 1) d')
    exact this
  · refine (hs.block k (by omega)).trans ((h3 k (by omega) fun g e => ?_).trans ((Below.heap_alloc w o k (by omega)).trans (h.chg k hk k1 k2)))
    rcases h.gc.pl with e2 | ⟨g2, e2, hg2⟩
    · rintro rfl; exact k2 (by rw [← e2, e])
    · rw [e2] at e; injection e with e; injection e with e; omega
end Go.Proofs.YtjooabgjkjnhhaaGreatDoor
