import Derived.Test.YtjooabgjkjnhhaaGreatDoorT24E
import Derived.Test.YtjooabgjkjnhhaaGreatDoorWords
import Derived.Deep.RegionHeld3

/-! The reference's token: Get. (Printed by tools/gent24b.py.) -/
namespace Go.Proofs.YtjooabgjkjnhhaaGreatDoor
open Go.RowKit
set_option linter.unusedVariables false
set_option linter.unusedSimpArgs false

/-- A token of nothing. -/
def zTk : List Value := tkC 0 none 0 0 none 0 0 (List.replicate 32 0)
def tkK (k : Int) : List Value := tkC k none 0 0 none 0 0 (List.replicate 32 0)
theorem tkC_one (key : Int) (io : Option Addr) (n ic : Nat) (lo : Option Addr) (m lc : Nat) (tag : List By) : ∀ v ∈ tkC key io n ic lo m lc tag, v.oneCell' = true := by
  intro v hv
  unfold tkC at hv
  rcases List.mem_append.1 hv with h | h
  · simp at h
    rcases h with rfl | rfl | rfl <;> rfl
  · exact B8_one _ v h
def zCv : List Value := [.int .i64 0, .int .i64 0, .int .i64 0, .int .i64 0, .int .u64 0]
theorem cvC_one (c : Cv) : ∀ v ∈ cvC c, v.oneCell' = true := by
  intro v hv
  simp [cvC] at hv
  rcases hv with rfl | rfl | rfl | rfl | rfl <;> rfl
theorem owB_keep {w W : World} {N t k : Nat} {v : Value} {n : Nat} {vs : List Value} (h : w.ownsRow N t k v n vs) (hb : Below w.heap.size w W) : W.ownsRow N t k v n vs := by
  refine ⟨h.1, ?_⟩
  rcases h.2 with h1 | ⟨g, c, cur, e, hg, hh, hr⟩
  · exact .inl h1
  · exact .inr ⟨g, c, cur, e, hg, (hb.block g (Array.getElem?_eq_some_iff.1 hh).1).trans hh, hr⟩
theorem owB_but {w W : World} {N t k g t' : Nat} {cs : List Value} {v : Value} {n : Nat} {vs : List Value} (h : w.ownsRow N t k v n vs) (hs : SameBut g w W) (hr : Row w g t' cs) (ht : t' ≠ t) : W.ownsRow N t k v n vs := by
  refine ⟨h.1, ?_⟩
  rcases h.2 with h1 | ⟨g2, c, cur, e, hg, hh, hr2⟩
  · exact .inl h1
  · refine .inr ⟨g2, c, cur, e, hg, (hs.block g2 (fun e => ?_)).trans hh, hr2⟩
    subst e
    have h2 : w.heap[g2]? = _ := hr
    rw [hh] at h2
    injection h2 with h2
    injection h2 with _ h2
    exact ht h2.symm
theorem own_butr {w W : World} {N g t' : Nat} {cs : List Value} {v : Value} {m : List By} (h : Own N w v m) (hs : SameBut g w W) (hr : Row w g t' cs) (ht : t' ≠ 5) : Own N W v m :=
  ⟨owB_but h.1 hs hr ht, by rw [hs.size]; exact h.2⟩
theorem owB_low {w : World} {N N' t k : Nat} {v : Value} {n : Nat} {vs : List Value} (h : w.ownsRow N t k v n vs) (hN : N' ≤ N) : w.ownsRow N' t k v n vs := by
  refine ⟨h.1, ?_⟩
  rcases h.2 with h1 | ⟨g, c, cur, e, hg, hr⟩
  · exact .inl h1
  · exact .inr ⟨g, c, cur, e, Nat.le_trans hN hg, hr⟩
/-- A token in memory of its own. -/
structure TkO (ct N : Nat) (W : World) (x : Tk) (io : Option Addr) (ic : Nat) (lo : Option Addr) (lc : Nat) : Prop where
  id : Own N W (.slice io x.id.length ic) x.id
  cs : W.ownsRow N ct 5 (.slice lo x.cs.length lc) x.cs.length (x.cs.flatMap cvC)
  tag : x.tag.length = 32
  ok : ∀ c ∈ x.cs, c.ok
  big : x.id.length ≤ 140737488351232
theorem TkO.keep {ct N : Nat} {W W2 : World} {x : Tk} {io : Option Addr} {ic : Nat} {lo : Option Addr} {lc : Nat} (h : TkO ct N W x io ic lo lc) (hb : Below W.heap.size W W2) : TkO ct N W2 x io ic lo lc := ⟨h.id.keep hb, owB_keep h.cs hb, h.tag, h.ok, h.big⟩
theorem TkO.low {ct N N' : Nat} {W : World} {x : Tk} {io : Option Addr} {ic : Nat} {lo : Option Addr} {lc : Nat} (h : TkO ct N W x io ic lo lc) (hN : N' ≤ N) : TkO ct N' W x io ic lo lc := ⟨own_le h.id hN, owB_low h.cs hN, h.tag, h.ok, h.big⟩
theorem flC_len (l : List Cv) : (l.flatMap cvC).length = l.length * 5 := by
  induction l with
  | nil => rfl
  | cons c l ih => rw [List.flatMap_cons, List.length_append, ih, List.length_cons]; simp [cvC]; omega
theorem flC_at (l : List Cv) (i : Nat) (c : Cv) (hi : l[i]? = some c) (j : Nat) (v : Value) (hv : (cvC c)[j]? = some v) : (l.flatMap cvC)[i * 5 + j]? = some v := by
  induction l generalizing i with
  | nil => simp at hi
  | cons d l ih =>
    have hj : j < 5 := (List.getElem?_eq_some_iff.1 hv).1
    rw [List.flatMap_cons]
    cases i with
    | zero =>
      simp at hi; subst hi
      rw [Nat.zero_mul, Nat.zero_add, List.getElem?_append_left (by simp [cvC]; omega)]
      exact hv
    | succ i =>
      rw [List.getElem?_append_right (by simp [cvC]; omega)]
      have e : (i + 1) * 5 + j - (cvC d).length = i * 5 + j := by simp [cvC]; omega
      rw [e]
      exact ih i (by simpa using hi)
theorem TkO.v {ct N : Nat} {W : World} {x : Tk} {io : Option Addr} {ic : Nat} {lo : Option Addr} {lc : Nat} (h : TkO ct N W x io ic lo lc) : TkV W x io ic lo lc := by
  refine ⟨own_IsB h.id, own_nilcap h.id, own_cap h.id, ?_, ?_, ?_, h.tag, h.ok, h.big⟩
  · intro i c hi
    have hil : i < x.cs.length := (List.getElem?_eq_some_iff.1 hi).1
    rcases h.cs.2 with ⟨e, e0⟩ | ⟨g, cc, cur, e, hg, hh, hn, hcm, hcs, htk⟩
    · omega
    · injection e with e1 _ _
      refine ⟨g, 0, e1, (Array.getElem?_eq_some_iff.1 hh).1, fun j v hv => ?_⟩
      have := h.cs.cells (g := g) (by rw [e1]; rfl) (i * 5 + j) v (flC_at x.cs i c hi j v hv)
      rw [Addr.add_mid, ← Nat.add_assoc] at this
      exact this
  · intro e
    rcases h.cs.2 with ⟨e1, _⟩ | ⟨g, c', cur, e1, _⟩
    · injection e1
    · injection e1 with e2; rw [e2] at e; cases e
  · rcases h.cs.2 with ⟨e1, e0⟩ | ⟨g, c', cur, e1, _, _, hn, _⟩
    · omega
    · injection e1 with _ _ e3; omega
/-- What Get tells. -/
def GetP (b : List By) (w : World) (e : Ending) (w' : World) : Prop :=
  Below w.heap.size w w' ∧ (∀ E A : Nat, getR b = .error (E, A) → e = .returned (.tuple #[.agg zTk.toArray, .agg #[.int .i64 (E : Int), .int .i64 (A : Int)]])) ∧ (∀ x, getR b = .ok x → ∃ io ic lo lc, e = .returned (.tuple #[.agg (tkCells x io ic lo lc).toArray, .agg #[.int .i64 0, .int .i64 0]]) ∧ TkO 50 w.heap.size w' x io ic lo lc)
theorem GetP.bad {b : List By} {w w' : World} {E A : Nat} (hb : Below w.heap.size w w') (h : getR b = .error (E, A)) : GetP b w (.returned (.tuple #[.agg zTk.toArray, .agg #[.int .i64 (E : Int), .int .i64 (A : Int)]])) w' :=
  ⟨hb, fun E' A' h' => by rw [h] at h'; injection h' with h'; injection h' with h1 h2; rw [h1, h2], fun x hx => by rw [h] at hx; cases hx⟩
/-- What Get keeps. -/
structure GP (w W : World) : Prop where
  bel : Below w.heap.size w W
  tok : Row W w.heap.size 28 zTk
  wrg : Row W (w.heap.size + 1) 73 [.int .i64 0, .int .i64 0]
theorem GP.start (w : World) : GP w ((w.alloc (.cells zTk.toArray 28)).alloc (.cells #[.int .i64 0, .int .i64 0] 73)) :=
  ⟨((Below.refl _ _).alloc (Nat.le_refl _) _).alloc (by simp) _, (Row.at w 28 zTk _ _ rfl rfl).alloc _, Row.at _ _ _ _ _ (by simp) rfl⟩
theorem GP.keep {w W W2 : World} (h : GP w W) (hb : Below W.heap.size W W2) : GP w W2 := ⟨h.bel.trans (hb.mono h.bel.size), h.tok.below hb h.tok.lt, h.wrg.below hb h.wrg.lt⟩
theorem GP.but {w W W2 : World} {g : Nat} (h : GP w W) (hs : SameBut g W W2) (hg : w.heap.size + 2 ≤ g) : GP w W2 := ⟨hs.below h.bel (by omega), h.tok.but hs (by omega), h.wrg.but hs (by omega)⟩
/-- The bytes, in any world that grew. -/
theorem bytes_at {w : World} {B off : Nat} {b : List By} (hb : IsB w (some ⟨B, off, none⟩) b) {W : World} (h : Below w.heap.size w W) (j : Nat) (hj : j < b.length) : W.cell? ⟨B, off + j, none⟩ = some (.int .u8 ((b.getD j 0).toNat : Int)) := by
  rcases hb.below h (Nat.le_refl _) with rfl | ⟨B', off', e, hc⟩
  · simp at hj
  · injection e with e; injection e with e1 e2
    subst e1 e2
    rw [hc j b[j] (List.getElem?_eq_getElem hj), getD_lt hj]; rfl
/-- While a caveat is read: whether its box is there, whether it was laid. -/
structure G9 (W1 : World) (CC : List Value) (qa qs : Bool) (W : World) : Prop where
  bel : Below W1.heap.size W1 W
  sz : qa = false → W.heap.size = W1.heap.size
  row : qa = true → Row W W1.heap.size 50 (if qs then CC else zCv)
theorem G9.start (W1 : World) (CC : List Value) : G9 W1 CC false false W1.drew := ⟨(Below.refl _ _).drew, fun _ => rfl, fun e => by cases e⟩
theorem G9.alloc {W1 W : World} {CC : List Value} (h : G9 W1 CC false false W) {q : Bool} (hq : q = false) : G9 W1 CC true q (W.alloc (.cells zCv.toArray 50)) := by
  subst hq
  refine ⟨h.bel.alloc (by rw [h.sz rfl]; exact Nat.le_refl _) _, fun e => by (cases e), fun _ => ?_⟩
  have r := Row.at W 50 zCv _ _ rfl rfl
  rw [h.sz rfl] at r
  exact r
theorem G9.store {W1 W W2 : World} {CC : List Value} (h : G9 W1 CC true false W) (hl : CC.length = 5) {q : Bool} (hq : q = true) (hr : Row W2 W1.heap.size 50 CC) (hs : SameBut W1.heap.size W W2) : G9 W1 CC q true W2 := by
  subst hq
  exact ⟨hs.below h.bel (Nat.le_refl _), fun e => by (cases e), fun _ => hr⟩
/-- Between two caveats. -/
structure GW (w : World) (b : List By) (g : Nat) (k : Int) (id : List By) (io : Option Addr) (ic : Nat) (LC : List Cv) (lo : Option Addr) (lc : Nat) (tg : List By) (W : World) : Prop where
  gp : GP w W
  hg : w.heap.size + 2 ≤ g
  t : Row W g 28 (tkC k io id.length ic lo LC.length lc tg)
  id : Own (w.heap.size + 2) W (.slice io id.length ic) id
  cav : W.ownsRow (w.heap.size + 2) 50 5 (.slice lo LC.length lc) LC.length (LC.flatMap cvC)
  ok : ∀ c ∈ LC, c.ok
theorem GW.keep {w : World} {b : List By} {g : Nat} {k : Int} {id : List By} {io : Option Addr} {ic : Nat} {LC : List Cv} {lo : Option Addr} {lc : Nat} {tg : List By} {W W2 : World} (h : GW w b g k id io ic LC lo lc tg W) (hb : Below W.heap.size W W2) : GW w b g k id io ic LC lo lc tg W2 :=
  ⟨h.gp.keep hb, h.hg, h.t.below hb h.t.lt, h.id.keep hb, owB_keep h.cav hb, h.ok⟩
theorem el_cavs24 : ElT 24 50 5 40 (.agg zCv.toArray) := ⟨Tryz.underlying24, by kernel_rfl, rfl, by omega⟩
/-- What an append to the caveats leaves of the rest. -/
theorem GW.still {w : World} {b : List By} {g : Nat} {k : Int} {id : List By} {io : Option Addr} {ic : Nat} {LC : List Cv} {lo : Option Addr} {lc : Nat} {tg : List By} {W W2 : World} (h : GW w b g k id io ic LC lo lc tg W) (hk : ∀ k, k < W.heap.size → (∀ g, lo = some ⟨g, 0, none⟩ → k ≠ g) → W2.heap[k]? = W.heap[k]?) {g' t' : Nat} {cs : List Value} (hr : Row W g' t' cs) (ht : t' ≠ 50) : Row W2 g' t' cs :=
  (hk g' hr.lt (fun q e e2 => by
    rcases h.cav.2 with ⟨e1, _⟩ | ⟨g2, c', cur, e1, _, hh, _⟩
    · injection e1 with e1; rw [e1] at e; cases e
    · injection e1 with e1 _ _
      rw [e1] at e; injection e with e; injection e with e
      subst e2; subst e
      have h2 : W.heap[g2]? = _ := hr
      rw [hh] at h2
      injection h2 with h2
      injection h2 with _ h2
      exact ht h2.symm)).trans hr
/-- A caveat more, and the token told so. -/
theorem GW.push {w : World} {b : List By} {g : Nat} {k : Int} {id : List By} {io : Option Addr} {ic : Nat} {LC : List Cv} {lo : Option Addr} {lc : Nat} {tg : List By} {W W2 : World} (h : GW w b g k id io ic LC lo lc tg W) (c : Cv) (hc : c.ok) {lo' : Option Addr} {lc' : Nat} (hl : tg.length = 32)
    (ho : W2.ownsRow (w.heap.size + 2) 50 5 (.slice lo' (LC.length + 1) lc') (LC.length + 1) (LC.flatMap cvC ++ cvC c)) (hz : W.heap.size ≤ W2.heap.size) (hbel : Below (w.heap.size + 2) W W2) (hk : ∀ k, k < W.heap.size → (∀ g, lo = some ⟨g, 0, none⟩ → k ≠ g) → W2.heap[k]? = W.heap[k]?) :
    GW w b g k id io ic (LC ++ [c]) lo' lc' tg (W2.setCell ⟨g, 2, none⟩ (.slice lo' (LC.length + 1) lc')) := by
  have hcav : ∀ (g' t' : Nat) (cs : List Value), Row W g' t' cs → t' ≠ 50 → W2.heap[g']? = W.heap[g']? := fun g' t' cs hr ht => hk g' hr.lt (fun q e e2 => by
    rcases h.cav.2 with ⟨e1, _⟩ | ⟨g2, c', cur, e1, _, hh, _⟩
    · injection e1 with e1; rw [e1] at e; cases e
    · injection e1 with e1 _ _
      rw [e1] at e; injection e with e; injection e with e
      subst e2; subst e
      have h2 : W.heap[g2]? = _ := hr
      rw [hh] at h2
      injection h2 with h2
      injection h2 with _ h2
      exact ht h2.symm)
  have ht2 : Row W2 g 28 (tkC k io id.length ic lo LC.length lc tg) := (hcav g _ _ h.t (by decide)).trans h.t
  have hs := SameBut.setCell g 2 (.slice lo' (LC.length + 1) lc') W2
  have hid2 : Own (w.heap.size + 2) W2 (.slice io id.length ic) id := by
    refine ⟨⟨h.id.1.1, ?_⟩, Nat.le_trans h.id.2 hz⟩
    rcases h.id.1.2 with h1 | ⟨g2, c', cur, e1, hg2, hh, hr⟩
    · exact .inl h1
    · exact .inr ⟨g2, c', cur, e1, hg2, (hcav g2 5 cur.toList (by show W.heap[g2]? = _; rw [hh]) (by decide)).trans hh, hr⟩
  refine ⟨GP.but ⟨h.gp.bel.trans (hbel.mono (by omega)), (hcav _ _ _ h.gp.tok (by decide)).trans h.gp.tok, (hcav _ _ _ h.gp.wrg (by decide)).trans h.gp.wrg⟩ hs h.hg, h.hg, ?_, own_butr hid2 hs ht2 (by decide), ?_, fun d hd => ?_⟩
  · have := ht2.set 2 (.slice lo' (LC.length + 1) lc')
    rw [List.length_append]
    exact this
  · rw [List.flatMap_append, List.length_append]
    have := owB_but ho hs ht2 (by decide)
    simpa using this
  · rcases List.mem_append.1 hd with hd | hd
    · exact h.ok d hd
    · rw [List.mem_singleton.1 hd]; exact hc
/-- A byte of the tag. -/
theorem GW.tag {w : World} {b : List By} {g : Nat} {k : Int} {id : List By} {io : Option Addr} {ic : Nat} {LC : List Cv} {lo : Option Addr} {lc : Nat} {tg : List By} {W : World} (h : GW w b g k id io ic LC lo lc tg W) (j : Nat) (x : By) : GW w b g k id io ic LC lo lc (tg.set j x) (W.setCell ⟨g, 3 + j, none⟩ (.int .u8 (x.toNat : Int))) := by
  have hs := SameBut.setCell g (3 + j) (.int .u8 (x.toNat : Int)) W
  refine ⟨h.gp.but hs h.hg, h.hg, ?_, own_butr h.id hs h.t (by decide), owB_but h.cav hs h.t (by decide), h.ok⟩
  have := h.t.set (3 + j) (.int .u8 (x.toNat : Int))
  have e : (tkC k io id.length ic lo LC.length lc tg).set (3 + j) (.int .u8 (x.toNat : Int)) = tkC k io id.length ic lo LC.length lc (tg.set j x) := by
    unfold tkC
    rw [List.set_append_right _ _ (by simp), List.map_set]
    simp [B8]
  rw [e] at this
  exact this
end Go.Proofs.YtjooabgjkjnhhaaGreatDoor


/-! A drawn region by an invariant over what has come up: one step an operation, whatever the number of orders. -/
namespace Go.Proofs.YtjooabgjkjnhhaaGreatDoor
open Go.RowKit

def onesOf (o : Oper) : List Nat := (o.after.toList.filter (Region.binds .any)).map (·.on)

/-- Each operation waits for earlier ones alone. -/
def dagB (ops : Array Oper) : Bool := (List.range ops.size).all fun i => ((ops[i]?).map fun o => (onesOf o).all (· < i)).getD true

/-- 'L' with number 'i' besides. -/
def upd (L : Nat → Bool) (i : Nat) : Nat → Bool := fun j => if j = i then true else L j

/-- One operation keeps the invariant. -/
def StepI (P : Program) (ops : Array Oper) (I : (Nat → Bool) → Act → World → Prop) (Q : Exit → Act → World → Prop) (i : Nat) (o : Oper) : Prop :=
  ∀ (L : Nat → Bool) (a : Act) (w : World), I L a w → L i = false → (∀ j ∈ onesOf o, L j = true) → ∀ K : Act → World → Prop, Shut (∀ a' w', I (upd L i) a' w' → K a' w') →
    if Region.wanted o (yielded ops a.tmps) = true then Oper.wp P o a w K Q else K (a.put o.dst undef) w

/-- All operations of a list, the first of them number 'n'. -/
def StepsI (P : Program) (ops : Array Oper) (I : (Nat → Bool) → Act → World → Prop) (Q : Exit → Act → World → Prop) : Nat → List Oper → Prop
  | _, [] => True
  | n, o :: r => StepI P ops I Q n o ∧ StepsI P ops I Q (n + 1) r

theorem StepsI.at {P : Program} {ops : Array Oper} {I : (Nat → Bool) → Act → World → Prop} {Q : Exit → Act → World → Prop} : ∀ (l : List Oper) (n : Nat), StepsI P ops I Q n l → ∀ (i : Nat) (o : Oper), l[i]? = some o → StepI P ops I Q (n + i) o
  | [], _, _, _, _, h => by simp at h
  | x :: r, n, hs, 0, o, h => by
    simp at h; subst h; exact hs.1
  | x :: r, n, hs, i + 1, o, h => by
    have := StepsI.at r (n + 1) hs.2 i o (by simpa using h)
    rw [show n + (i + 1) = n + 1 + i by omega]; exact this

def asL (l : Array Bool) : Nat → Bool := fun j => l.getD j false

theorem asL_set (l : Array Bool) (i : Nat) (h : i < l.size) : asL (l.setIfInBounds i true) = upd (asL l) i := by
  funext j
  unfold asL upd
  by_cases hj : j = i
  · subst hj; simp [h]
  · rw [if_neg hj, getD_set_ne false (fun e => hj e.symm)]

theorem wp_region_inv {P : Program} {ops : Array Oper} {Q : Exit → Act → World → Prop} {id : Nat} {a : Act} {w : World} (I : (Nat → Bool) → Act → World → Prop) (hm : P.follows .mixedOrders = true) (hd : dagB ops = true)
    (h0 : I (fun _ => false) a w.drew) (hs : StepsI P ops I Q 0 ops.toList) (he : ∀ L a' w', (∀ j, j < ops.size → L j = true) → I L a' w' → Q .normal a' w') : (Code.region id ops true).wp P Q a w := by
  have hall : ∀ l : Array Bool, l.size = ops.size → Region.ready .any ops l = [] → ∀ j, j < ops.size → asL l j = true := by
    intro l hl hr j
    induction j using Nat.strongRecOn with
    | _ j ih =>
      intro hj
      cases hb : asL l j with
      | true => rfl
      | false =>
        exfalso
        have hm : j ∈ Region.ready .any ops l := by
          rw [mem_ready]
          refine ⟨?_, ops[j], Array.getElem?_eq_getElem hj, fun e hme hbe => ?_⟩
          · unfold asL at hb
            simp [hl, hj] at hb ⊢; exact hb
          · have h1 : e.on ∈ onesOf ops[j] := by
              unfold onesOf
              exact List.mem_map.2 ⟨e, List.mem_filter.2 ⟨by simpa using hme, hbe⟩, rfl⟩
            unfold dagB at hd
            rw [List.all_eq_true] at hd
            have h2 := hd j (List.mem_range.2 hj)
            rw [Array.getElem?_eq_getElem hj] at h2
            simp only [Option.map_some, Option.getD_some, List.all_eq_true, decide_eq_true_eq] at h2
            have h3 := h2 _ h1
            exact ih _ h3 (by omega)
        rw [hr] at hm; cases hm
  have hmain : ∀ (fuel : Nat) (l : Array Bool) (a : Act) (w : World), l.size = ops.size → (l.toList.filter (! ·)).length ≤ fuel → I (asL l) a w → wpAny P .any ops Q fuel l a w := by
    intro fuel
    induction fuel with
    | zero =>
      intro l a w hl hc hI
      have hr : Region.ready .any ops l = [] := by
        apply List.eq_nil_iff_forall_not_mem.2
        intro j hj
        obtain ⟨h1, o, ho, _⟩ := mem_ready.1 hj
        have hlt : j < l.size := by rw [hl]; exact (Array.getElem?_eq_some_iff.1 ho).1
        have : l[j] ∈ l.toList.filter (! ·) := List.mem_filter.2 ⟨by simp, by simp [hlt] at h1; simp [h1]⟩
        have h2 := List.length_pos_of_mem this
        omega
      exact ⟨hr, he _ _ _ (hall l hl hr) hI⟩
    | succ fuel ih =>
      intro l a w hl hc hI
      refine ⟨fun hr => he _ _ _ (hall l hl hr) hI, fun i hi => ?_⟩
      obtain ⟨h1, o, ho, h2⟩ := mem_ready.1 hi
      have hlt : i < l.size := by rw [hl]; exact (Array.getElem?_eq_some_iff.1 ho).1
      have hfi : asL l i = false := by unfold asL; simp [hlt] at h1 ⊢; exact h1
      have hst := StepsI.at ops.toList 0 hs i o (by simpa using ho)
      rw [Nat.zero_add] at hst
      refine wpOp_step ho fun K hK => hst (asL l) a w hI hfi ?_ K ?_
      · intro j hj
        unfold onesOf at hj
        obtain ⟨e, hme, rfl⟩ := List.mem_map.1 hj
        obtain ⟨h3, h4⟩ := List.mem_filter.1 hme
        exact h2 e (by simpa using h3) h4
      · intro a' w' hI'
        refine hK a' w' (ih _ a' w' (by simpa using hl) ?_ (by rw [asL_set l i hlt]; exact hI'))
        have h5 : l[i] = false := by simp [hlt] at h1; exact h1
        have h6 : ((l.setIfInBounds i true).toList.filter (! ·)).length + 1 ≤ (l.toList.filter (! ·)).length := by
          rw [Array.toList_setIfInBounds]
          clear hI' hK hI hst hfi hc hl h2
          have h7 : l.toList[i]? = some false := by simp [hlt, h5]
          generalize l.toList = ll at h7 ⊢
          clear hi h1 h5 hlt ho
          induction ll generalizing i with
          | nil => simp at h7
          | cons y r ihl =>
            cases i with
            | zero => simp at h7; subst h7; simp
            | succ i =>
              have := ihl i (by simpa using h7)
              cases y <;> simp at this ⊢ <;> omega
        omega
  refine wp_region_any hm ?_
  refine hmain _ _ _ _ (by simp) ?_ ?_
  · refine Nat.le_trans (List.length_filter_le _ _) (by simp)
  · have : asL (Array.replicate ops.size false) = fun _ => false := by
      funext j; unfold asL
      by_cases hj : j < ops.size <;> simp [hj]
    rw [this]; exact h0

/-- The invariant, once for each operation. -/
theorem StepsI.cons {P : Program} {ops : Array Oper} {I : (Nat → Bool) → Act → World → Prop} {Q : Exit → Act → World → Prop} {n : Nat} {o : Oper} {r : List Oper} (h : StepI P ops I Q n o) (hr : StepsI P ops I Q (n + 1) r) : StepsI P ops I Q n (o :: r) := ⟨h, hr⟩
theorem StepsI.nil {P : Program} {ops : Array Oper} {I : (Nat → Bool) → Act → World → Prop} {Q : Exit → Act → World → Prop} {n : Nat} : StepsI P ops I Q n [] := trivial
end Go.Proofs.YtjooabgjkjnhhaaGreatDoor
