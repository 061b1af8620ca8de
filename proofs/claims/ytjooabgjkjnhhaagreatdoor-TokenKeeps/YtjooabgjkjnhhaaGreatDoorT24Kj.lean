
import Derived.Test.YtjooabgjkjnhhaaGreatDoorT24Kh
/-! TokenKeeps: all that was told, round by round. -/
namespace Go.Proofs.YtjooabgjkjnhhaaGreatDoor
open Go.RowKit
set_option linter.unusedVariables false
set_option linter.unusedSimpArgs false
set_option maxRecDepth 100000

/-- A token that is written over and grown. -/
structure Dn (W : World) (j : Nat) (r : Te) (u : List Value) (jo : Option Addr) (jc : Nat) (ko : Option Addr) (kc : Nat) : Prop where
  eu : u = tkC r.x.key jo (r.x.id.length + 40) jc ko (r.x.cs.length + 40) kc r.x.tag
  i0 : IsL W r.io (rep r.x.id.length (mB j))
  t0 : TyB 5 W r.io
  c0 : IsL W r.lo (rep r.x.cs.length (mC j))
  s0 : TyB 52 W r.lo
  i1 : IsL W jo (rep (r.x.id.length + 40) (mB j))
  t1 : TyB 5 W jo
  c1 : IsL W ko (rep (r.x.cs.length + 40) (mC j))
  s1 : TyB 52 W ko
theorem Dn.blk {W W2 : World} {j : Nat} {r : Te} {u : List Value} {jo : Option Addr} {jc : Nat} {ko : Option Addr} {kc : Nat} (h : Dn W j r u jo jc ko kc) (h1 : ∀ B off, r.io = some ⟨B, off, none⟩ → W2.heap[B]? = W.heap[B]?) (h2 : ∀ B off, r.lo = some ⟨B, off, none⟩ → W2.heap[B]? = W.heap[B]?) (h3 : ∀ B off, jo = some ⟨B, off, none⟩ → W2.heap[B]? = W.heap[B]?) (h4 : ∀ B off, ko = some ⟨B, off, none⟩ → W2.heap[B]? = W.heap[B]?) : Dn W2 j r u jo jc ko kc :=
  ⟨h.eu, isL_blk h.i0 h1, h.t0.blk h1, isL_blk h.c0 h2, h.s0.blk h2, isL_blk h.i1 h3, h.t1.blk h3, isL_blk h.c1 h4, h.s1.blk h4⟩
/-- a does not lie where b does. -/
def Apt (a b : Option Addr) : Prop := ∀ g o p, a = some ⟨g, o, none⟩ → b ≠ some ⟨g, p, none⟩
theorem Apt.symm {a b : Option Addr} (h : Apt a b) : Apt b a := fun g o p e1 e2 => h g p o e2 e1
def SepT (rs : List Te) : Prop := ∀ (j k : Nat) (r r' : Te), j < k → rs[j]? = some r → rs[k]? = some r' → Apt r.io r'.io ∧ Apt r.lo r'.lo
/-- Ahead of round i. -/
structure GT (N : Nat) (W00 : World) (rs : List Te) (D dc i E ec : Nat) (us : List (List Value)) (W : World) : Prop where
  bel : Below N W00 W
  hN : N ≤ W.heap.size
  arr : W.ownsRow 0 40 35 (.slice (some ⟨D, 0, none⟩) rs.length dc) rs.length (rs.flatMap Te.cells)
  todo : ∀ (j : Nat) (r : Te), i ≤ j → rs[j]? = some r → TkO 52 N W r.x r.io r.ic r.lo r.lc
  done : ∀ (j : Nat) (r : Te), j < i → rs[j]? = some r → ∃ u jo jc ko kc, us[j]? = some u ∧ Dn W j r u jo jc ko kc ∧ ∀ (k : Nat) (r' : Te), i ≤ k → rs[k]? = some r' → Apt jo r'.io ∧ Apt ko r'.lo
  larr : W.ownsRow N 40 35 (.slice (some ⟨E, 0, none⟩) i ec) i us.flatten
  ul : us.length = i
  u35 : ∀ u ∈ us, u.length = 35
  sep : E ≠ D
theorem own_lies {N e size n c : Nat} {w : World} {ao : Option Addr} {vs : List Value} (h : w.ownsRow N e size (.slice ao n c) n vs) : ∀ B off, ao = some ⟨B, off, none⟩ → off = 0 ∧ N ≤ B ∧ B < w.heap.size := fun B off he => by
  rcases h.2 with ⟨e1, _⟩ | ⟨g, cap, cur, e1, h2, h3, _⟩
  · injection e1 with e1; rw [he] at e1; cases e1
  · injection e1 with e1; rw [he] at e1; injection e1 with e1; injection e1 with e1 e2; subst e1 e2
    exact ⟨rfl, h2, (Array.getElem?_eq_some_iff.1 h3).1⟩
theorem TkO.blk24 {ct N : Nat} {W W2 : World} {x : Tk} {io : Option Addr} {ic : Nat} {lo : Option Addr} {lc : Nat} (h : TkO ct N W x io ic lo lc) (hN : N ≤ W2.heap.size) (h1 : ∀ B off, io = some ⟨B, off, none⟩ → W2.heap[B]? = W.heap[B]?) (h2 : ∀ B off, lo = some ⟨B, off, none⟩ → W2.heap[B]? = W.heap[B]?) : TkO ct N W2 x io ic lo lc :=
  ⟨⟨owns_blk24 h.id.1 h1, hN⟩, owns_blk24 h.cs h2, h.tag, h.ok, h.big⟩
/-- One round more. -/
theorem GT.next {N : Nat} {W00 : World} {rs : List Te} {D dc i E ec : Nat} {us : List (List Value)} {W0 W W2 : World} (h : GT N W00 rs D dc i E ec us W0) (hsep : SepT rs) {r : Te} (hr : rs[i]? = some r) {gu : Nat} {ao : Option Addr} {c : Nat} {bo : Option Addr} {d : Nat} (g : G5 N W0 r gu i 40 40 ao c bo d W) {o : Obj} {E' ec' : Nat}
    (h1 : W2.ownsRow N 40 35 (.slice (some ⟨E', 0, none⟩) (i + 1) ec') (i + 1) (us.flatten ++ tkC r.x.key ao (r.x.id.length + 40) c bo (r.x.cs.length + 40) d r.x.tag)) (h2 : Below N (W.alloc o) W2) (hz : (W.alloc o).heap.size ≤ W2.heap.size) (h3 : ∀ k, k < (W.alloc o).heap.size → k ≠ E → W2.heap[k]? = (W.alloc o).heap[k]?) (h4 : E' = E ∨ E' = (W.alloc o).heap.size) (htag : r.x.tag.length = 32) :
    GT N W00 rs D dc (i + 1) E' ec' (us ++ [tkC r.x.key ao (r.x.id.length + 40) c bo (r.x.cs.length + 40) d r.x.tag]) W2 := by
  have ha : (W.alloc o).heap.size = W.heap.size + 1 := by simp
  have hsz := g.sz
  have hN0 := g.hN
  have hT := h.todo i r (Nat.le_refl _) hr
  obtain ⟨cE, fE, tE⟩ := own_tyb h.larr E 0 rfl
  have lE := own_lies h.larr E 0 rfl
  -- blocks of bytes and of caveats stay from W on
  have key : ∀ (B t' : Nat) (cur : Array Value) (fz : Nat × Nat), W.heap[B]? = some (.cells cur t' fz) → t' ≠ 40 → W2.heap[B]? = W.heap[B]? := fun B t' cur fz hB hne => by
    have hlt : B < W.heap.size := (Array.getElem?_eq_some_iff.1 hB).1
    refine (h3 B (by omega) ?_).trans (Below.heap_alloc W o B hlt)
    have hE : W.heap[E]? = W0.heap[E]? := g.chg E lE.2.2 (fun e => by
      obtain ⟨c1, f1, t1⟩ := own_tyb hT.id.1 E 0 e
      exact ty_ne t1 tE (by decide) rfl) (fun e => by
      obtain ⟨c1, f1, t1⟩ := own_tyb hT.cs E 0 e
      exact ty_ne t1 tE (by decide) rfl)
    exact ty_ne hB (hE.trans tE) hne
  -- of old ones, those that don't lie in r's rows
  have old5 : ∀ (xo : Option Addr), TyB 5 W0 xo → (∀ B off, xo = some ⟨B, off, none⟩ → B < W0.heap.size) → Apt xo r.io → ∀ B off, xo = some ⟨B, off, none⟩ → W2.heap[B]? = W0.heap[B]? := fun xo k1 k2 k3 B off e => by
    obtain ⟨c1, f1, t1⟩ := k1 B off e
    have e1 : W.heap[B]? = W0.heap[B]? := g.chg B (k2 B off e) (k3 B off 0 e) (fun e2 => by
      obtain ⟨c2, f2, t2⟩ := own_tyb hT.cs B 0 e2
      exact ty_ne t1 t2 (by decide) rfl)
    exact (key B 5 c1 f1 (e1.trans t1) (by decide)).trans e1
  have oldC : ∀ (xo : Option Addr), TyB 52 W0 xo → (∀ B off, xo = some ⟨B, off, none⟩ → B < W0.heap.size) → Apt xo r.lo → ∀ B off, xo = some ⟨B, off, none⟩ → W2.heap[B]? = W0.heap[B]? := fun xo k1 k2 k3 B off e => by
    obtain ⟨c1, f1, t1⟩ := k1 B off e
    have e1 : W.heap[B]? = W0.heap[B]? := g.chg B (k2 B off e) (fun e2 => by
      obtain ⟨c2, f2, t2⟩ := own_tyb hT.id.1 B 0 e2
      exact ty_ne t1 t2 (by decide) rfl) (k3 B off 0 e)
    exact (key B 52 c1 f1 (e1.trans t1) (by decide)).trans e1
  have tlt : ∀ (e : Nat) (xo : Option Addr), TyB e W0 xo → ∀ B off, xo = some ⟨B, off, none⟩ → B < W0.heap.size := fun e xo k B off he => by
    obtain ⟨c1, f1, t1⟩ := k B off he
    exact (Array.getElem?_eq_some_iff.1 t1).1
  have hW2N : N ≤ W2.heap.size := by omega
  refine ⟨(h.bel.trans (g.bel.trans ((Below.refl N W).alloc (by omega) o))).trans h2, hW2N, ?_, ?_, ?_, ?_, by simp [h.ul], ?_, ?_⟩
  · refine owns_blk24 h.arr fun B off e => ?_
    injection e with e; injection e with e _
    subst e
    obtain ⟨cD, fD, tD⟩ := own_tyb h.arr D 0 rfl
    have lD := (own_lies h.arr D 0 rfl).2.2
    refine (h3 D (by omega) (Ne.symm h.sep)).trans ((Below.heap_alloc W o D (by omega)).trans (g.chg D lD (fun e => ?_) (fun e => ?_)))
    · obtain ⟨c1, f1, t1⟩ := own_tyb hT.id.1 D 0 e
      exact ty_ne t1 tD (by decide) rfl
    · obtain ⟨c1, f1, t1⟩ := own_tyb hT.cs D 0 e
      exact ty_ne t1 tD (by decide) rfl
  · intro j r' hj hr'
    have hx := h.todo j r' (by omega) hr'
    have hs := hsep i j r r' (by omega) hr hr'
    exact hx.blk24 hW2N (old5 r'.io (own_tyb hx.id.1) (tlt 5 _ (own_tyb hx.id.1)) hs.1.symm) (oldC r'.lo (own_tyb hx.cs) (tlt _ _ (own_tyb hx.cs)) hs.2.symm)
  · intro j r' hj hr'
    by_cases hji : j = i
    · subst hji
      rw [hr] at hr'
      injection hr' with hr'
      subst hr'
      have gi := g.gi
      have gc := g.gc
      have k5 : ∀ xo, TyB 5 W xo → ∀ B off, xo = some ⟨B, off, none⟩ → W2.heap[B]? = W.heap[B]? := fun xo k B off e => by
        obtain ⟨c1, f1, t1⟩ := k B off e
        exact key B 5 c1 f1 t1 (by decide)
      have kC : ∀ xo, TyB 52 W xo → ∀ B off, xo = some ⟨B, off, none⟩ → W2.heap[B]? = W.heap[B]? := fun xo k B off e => by
        obtain ⟨c1, f1, t1⟩ := k B off e
        exact key B _ c1 f1 t1 (by decide)
      refine ⟨_, ao, c, bo, d, by rw [List.getElem?_append_right (by rw [h.ul]; exact Nat.le_refl _), h.ul]; simp, Dn.blk ⟨rfl, gi.isl, gi.tb, gc.isl, gc.tb, own_isL24 gi.own (by omega), own_tyb gi.own, own_isL24 gc.own (by omega), own_tyb gc.own⟩ (k5 _ gi.tb) (kC _ gc.tb) (k5 _ (own_tyb gi.own)) (kC _ (own_tyb gc.own)), fun k r' hk hr2 => ?_⟩
      have hs := hsep j k r r' (by omega) hr hr2
      have hx := h.todo k r' (by omega) hr2
      constructor
      · rcases gi.pl with e | ⟨g9, e, hg9⟩
        · rw [e]; exact hs.1
        · intro B p q e1 e2
          rw [e] at e1; injection e1 with e1; injection e1 with e1 _
          have := (own_lies hx.id.1 B q e2).2.2
          omega
      · rcases gc.pl with e | ⟨g9, e, hg9⟩
        · rw [e]; exact hs.2
        · intro B p q e1 e2
          rw [e] at e1; injection e1 with e1; injection e1 with e1 _
          have := (own_lies hx.cs B q e2).2.2
          omega
    · obtain ⟨u, jo, jc, ko, kc, hu, hd, hap⟩ := h.done j r' (by omega) hr'
      have hs := hsep j i r' r (by omega) hr' hr
      have hai := hap i r (Nat.le_refl _) hr
      refine ⟨u, jo, jc, ko, kc, by rw [List.getElem?_append_left (by rw [h.ul]; omega)]; exact hu, hd.blk (old5 _ hd.t0 (tlt _ _ hd.t0) hs.1) (oldC _ hd.s0 (tlt _ _ hd.s0) hs.2) (old5 _ hd.t1 (tlt _ _ hd.t1) hai.1) (oldC _ hd.s1 (tlt _ _ hd.s1) hai.2), fun k r'' hk hr'' => hap k r'' (by omega) hr''⟩
  · rw [List.flatten_append]
    simpa using h1
  · intro u hu
    rcases List.mem_append.1 hu with hu | hu
    · exact h.u35 u hu
    · rw [List.mem_singleton.1 hu]; exact tkC_len htag
  · have lD := (own_lies h.arr D 0 rfl).2.2
    rcases h4 with e | e
    · rw [e]; exact h.sep
    · omega
theorem flat_at {α : Type} (f : α → List Value) (size : Nat) : ∀ (l : List α), (∀ a ∈ l, (f a).length = size) → ∀ (i : Nat) (a : α), l[i]? = some a → ∀ (j : Nat) (v : Value), (f a)[j]? = some v → (l.flatMap f)[i * size + j]? = some v
  | [], _, i, a, h, _, _, _ => by cases h
  | b :: l, hl, 0, a, h, j, v, hv => by
    injection h with h; subst h
    rw [List.flatMap_cons, List.getElem?_append_left (by have := (List.getElem?_eq_some_iff.1 hv).1; omega)]
    simpa using hv
  | b :: l, hl, i + 1, a, h, j, v, hv => by
    have hb := hl b (List.mem_cons_self ..)
    rw [List.flatMap_cons, List.getElem?_append_right (by rw [hb, Nat.add_mul]; omega), hb, show (i + 1) * size + j - size = i * size + j by rw [Nat.add_mul]; omega]
    exact flat_at f size l (fun c hc => hl c (List.mem_cons_of_mem _ hc)) i a h j v hv
theorem allB_of {W : World} {ao : Option Addr} {n j : Nat} (h : IsL W ao (rep n (mB j))) : AllB W ao n ((j : Int) + 1) := fun k hk => by
  have hat := rep_at (mB j) 1 rfl 0 _ rfl n k hk
  rw [Nat.mul_one, Nat.add_zero] at hat
  rcases h with h | ⟨B, off, e, hc⟩
  · rw [h] at hat; cases hat
  · exact ⟨B, off, e, hc k _ hat⟩
theorem allC_of {W : World} {ao : Option Addr} {n j : Nat} (h : IsL W ao (rep n (mC j))) : AllC W ao n (-1 - (j : Int)) := fun k hk => by
  have hat := rep_at (mC j) 5 rfl 0 _ rfl n k hk
  rw [Nat.add_zero] at hat
  rcases h with h | ⟨B, off, e, hc⟩
  · rw [h] at hat; cases hat
  · exact ⟨B, off, e, hc _ _ hat⟩
/-- Behind the last round. -/
theorem GT.fin {N : Nat} {W00 : World} {rs : List Te} {D dc n E ec : Nat} {us : List (List Value)} {W : World} (h : GT N W00 rs D dc n E ec us W) (hn : rs.length = n) (h35 : ∀ r ∈ rs, r.cells.length = 35) (hb : ∀ r ∈ rs, r.x.id.length ≤ 140737488351232 ∧ r.x.cs.length ≤ 140737488351232) : ∀ i, i < n → FinT W D 0 E 0 i := fun i hi => by
  obtain ⟨r, hr⟩ : ∃ r, rs[i]? = some r := ⟨_, List.getElem?_eq_getElem (by rw [hn]; exact hi)⟩
  obtain ⟨u, jo, jc, ko, kc, hu, hd, _⟩ := h.done i r hi hr
  have hm := List.mem_of_getElem? hr
  have hbb := hb r hm
  have hcell : ∀ k v, r.cells[k]? = some v → W.cell? ⟨D, 0 + i * 35 + k, none⟩ = some v := fun k v hk => by
    have := h.arr.cells (g := D) rfl (i * 35 + k) v (flat_at Te.cells 35 rs h35 i r hr k v hk)
    rw [Addr.add_mid, ← Nat.add_assoc] at this
    exact this
  have hrange : W.rangeAt E (0 + i * 35) u := fun k v hk => by
    have h9 : us.flatten = us.flatMap (fun z => z) := by simp [List.flatMap_id']
    have := h.larr.cells (g := E) rfl (i * 35 + k) v (by rw [h9]; exact flat_at (fun z => z) 35 us h.u35 i u hu k v hk)
    rw [Addr.add_mid, ← Nat.add_assoc] at this
    exact this
  refine ⟨r.io, r.x.id.length, r.ic, r.lo, r.x.cs.length, r.lc, u, jo, jc, ko, kc, hcell 1 _ rfl, hcell 2 _ rfl, h.u35 u (List.mem_of_getElem? hu), ?_, hrange, ?_, ?_, allB_of hd.i0, allB_of hd.i1, allC_of hd.c0, allC_of hd.c1, hbb.1, hbb.2⟩
  · rw [hd.eu]; exact tkC_one _ _ _ _ _ _ _ _
  · rw [hd.eu]; rfl
  · rw [hd.eu]; rfl
end Go.Proofs.YtjooabgjkjnhhaaGreatDoor
