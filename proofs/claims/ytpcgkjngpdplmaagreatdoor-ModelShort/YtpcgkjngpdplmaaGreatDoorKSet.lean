
import Derived.Maps.RangeWalk
import Derived.Maps.OwnSet
import Derived.Below
/-! A set of things as a map's keys, told as a list; put in, counted, ranged over in whatever order. (Of any program, any type of keys.) -/
namespace Go.Proofs.YtpcgkjngpdplmaaGreatDoor
open Go.RowKit Go.Maps
set_option linter.unusedVariables false
section
variable {σ : Type} (P : Program) (k : TypeId) (f : σ → Value) (R : Value → Option (DataW Unit × List MemPlace))

/-- A map's reading has just the keys of a list. -/
structure KA (D : DataW Unit) (L : List σ) : Prop where
  has : ∀ s ∈ L, ∃ kl, keyOf P k (f s) = some kl ∧ Maps.has D kl = true
  only : ∀ kl, Maps.has D kl = true → ∃ s ∈ L, keyOf P k (f s) = some kl
/-- Block b is a map of at most n entries whose keys are those of the list L. -/
def KSet (w : World) (b n : Nat) (L : List σ) : Prop := ∃ D, w.ownsMap P k R b n D ∧ KA P k f D L
/-- Ranged over: those of the list 'done' have come. -/
def KRng (w : World) (b r n : Nat) (L done : List σ) (cnt : Nat) : Prop :=
  ∃ D left, w.ranges P k R b r n D left cnt ∧ KA P k f D L ∧ (∀ s ∈ done, s ∈ L) ∧ (done.length + cnt ≤ n ∧ done.Pairwise fun a b => f a ≠ f b) ∧ ∀ kl, left kl = true ↔ Maps.has D kl = true ∧ ∀ s ∈ done, keyOf P k (f s) ≠ some kl
variable {P k f R} {w : World} {b r n : Nat} {L done : List σ} {cnt : Nat}

theorem KSet.made (w : World) : KSet P k f R (w.alloc (.map #[] 0)) w.heap.size 0 [] :=
  ⟨_, World.ownsMap_made w P k R, fun s h => (by cases h), fun kl h => (by simp [Maps.has] at h)⟩
theorem KSet.lt (h : KSet P k f R w b n L) : b < w.heap.size := by
  obtain ⟨D, h1, _⟩ := h
  exact h1.lt
theorem KSet.kept {w' : World} {row : Option Nat} (h : KSet P k f R w b n L) (hg : w.grownBy w' row) (hne : some b ≠ row) : KSet P k f R w' b n L := by
  obtain ⟨D, h1, h2⟩ := h
  exact ⟨D, h1.kept hg hne, h2⟩
theorem grown_of_below {w w' : World} (h : Below w.heap.size w w') : w.grownBy w' none := ⟨h.os, h.tape, h.output, h.size, fun i hi _ => h.block i hi⟩
theorem below_of_grown {w w' : World} {b N : Nat} (h : w.grownBy w' (some b)) (hb : N ≤ b) (hN : N ≤ w.heap.size) : Below N w w' :=
  ⟨h.os, h.tape, h.output, h.size, fun i hi => h.block i (by omega) (fun e => by injection e with e; omega)⟩
theorem below_of_grown0 {w w' : World} {N : Nat} (h : w.grownBy w' none) (hN : N ≤ w.heap.size) : Below N w w' :=
  ⟨h.os, h.tape, h.output, h.size, fun i hi => h.block i (by omega) (fun e => by cases e)⟩
theorem KSet.below {w' : World} {N : Nat} (h : KSet P k f R w b n L) (hg : Below N w w') (hb : b < N) : KSet P k f R w' b n L := by
  obtain ⟨D, ⟨es, clock, h1, h3⟩, h2⟩ := h
  exact ⟨D, ⟨es, clock, (hg.block b hb).trans h1, h3⟩, h2⟩
/-- Lists of the same things. -/
theorem KSet.same (h : KSet P k f R w b n L) {M : List σ} (hm : ∀ s, s ∈ L ↔ s ∈ M) : KSet P k f R w b n M := by
  obtain ⟨D, h1, h2, h3⟩ := h
  exact ⟨D, h1, fun s hs => h2 s ((hm s).2 hs), fun kl hk => by obtain ⟨s, hs, e⟩ := h3 kl hk; exact ⟨s, (hm s).1 hs, e⟩⟩
theorem KA.put {D : DataW Unit} (h : KA P k f D L) (hD : IsMap D) (K : Keyed P k) {s : σ} {kl : Lit} (hkey : keyOf P k (f s) = some kl) (d : DataW Unit) : KA P k f (D.put kl d) (s :: L) := by
  refine ⟨fun t ht => ?_, fun x hx => ?_⟩
  · rcases List.mem_cons.1 ht with rfl | ht
    · exact ⟨kl, hkey, has_put_same hD (K.key hkey) d⟩
    · obtain ⟨x, hx, hh⟩ := h.has t ht
      refine ⟨x, hx, ?_⟩
      by_cases e : x = kl
      · rw [e]; exact has_put_same hD (K.key hkey) d
      · rw [has_put_other e]; exact hh
  · by_cases e : x = kl
    · exact ⟨s, List.mem_cons_self .., by rw [e]; exact hkey⟩
    · rw [has_put_other e] at hx
      obtain ⟨t, ht, hk⟩ := h.only x hx
      exact ⟨t, List.mem_cons_of_mem _ ht, hk⟩
theorem KSet.size_zero {D : DataW Unit} (ho : w.ownsMap P k R b n D) (hA : KA P k f D L) (K : Keyed P k) : Maps.size D = 0 ↔ L = [] := by
  obtain ⟨es, rfl, _, hk⟩ := ho.entries K
  constructor
  · intro h
    match L, hA with
    | [], _ => rfl
    | s :: L, hA =>
      obtain ⟨kl, _, hh⟩ := hA.has s (List.mem_cons_self ..)
      have : es = [] := List.eq_nil_of_length_eq_zero h
      subst this
      simp [Maps.has] at hh
  · rintro rfl
    match es, hA, hk with
    | [], _, _ => rfl
    | p :: es, hA, hk =>
      obtain ⟨s, hs, _⟩ := hA.only p.1 (List.any_eq_true.2 ⟨p, List.mem_cons_self .., WideAt.sameKey_self (hk p (List.mem_cons_self ..))⟩)
      cases hs

theorem KRng.set (h : KRng P k f R w b r n L done cnt) : KSet P k f R w b n L := by
  obtain ⟨D, left, h1, h2, _⟩ := h
  exact ⟨D, h1.owns, h2⟩
theorem KRng.lt (h : KRng P k f R w b r n L done cnt) : r < w.heap.size := by
  obtain ⟨D, left, h1, h2, _⟩ := h
  exact h1.lt
theorem KRng.kept {w' : World} {row : Option Nat} (h : KRng P k f R w b r n L done cnt) (hg : w.grownBy w' row) (hb : some b ≠ row) (hr : some r ≠ row) : KRng P k f R w' b r n L done cnt := by
  obtain ⟨D, left, h1, h2⟩ := h
  exact ⟨D, left, h1.kept hg hb hr, h2⟩
theorem KRng.below {w' : World} {N : Nat} (h : KRng P k f R w b r n L done cnt) (hg : Below N w w') (hb : b < N) (hr : r < N) : KRng P k f R w' b r n L done cnt := by
  obtain ⟨D, left, ⟨es, clock, since, seen, c0, h1, h2, h3, h4, h5, h6⟩, h7⟩ := h
  exact ⟨D, left, ⟨es, clock, since, seen, c0, (hg.block b hb).trans h1, h2, h3, h4, (hg.block r hr).trans h5, h6⟩, h7⟩
theorem KRng.apart (h : KRng P k f R w b r n L done cnt) : done.Pairwise fun a b => f a ≠ f b := by
  obtain ⟨D, left, _, _, _, h, _⟩ := h
  exact h.2
theorem KRng.came (h : KRng P k f R w b r n L done cnt) : ∀ s ∈ done, s ∈ L := by
  obtain ⟨D, left, _, _, h, _⟩ := h
  exact h
theorem KRng.left (h : KRng P k f R w b r n L done cnt) : w.rangeLeft b r = cnt := by
  obtain ⟨D, left, h1, _⟩ := h
  exact h1.left_eq
theorem KRng.all {D : DataW Unit} {left : Lit → Bool} (hA : KA P k f D L) (hl : ∀ kl, left kl = true ↔ Maps.has D kl = true ∧ ∀ s ∈ done, keyOf P k (f s) ≠ some kl) (K : Keyed P k) (h0 : ∀ kl, left kl = false) : ∀ s ∈ L, ∃ t ∈ done, f t = f s := by
  intro s hs
  obtain ⟨kl, hk, hh⟩ := hA.has s hs
  have h1 : ¬ (∀ s ∈ done, keyOf P k (f s) ≠ some kl) := fun h => by
    have := (hl kl).2 ⟨hh, h⟩
    rw [h0 kl] at this
    cases this
  obtain ⟨t, ht⟩ := Classical.not_forall.1 h1
  obtain ⟨ht, he⟩ := Classical.not_imp.1 ht
  exact ⟨t, ht, K.inj (Classical.not_not.1 he) hk⟩

section
variable {ops : Array Oper} {rest : List Oper} {o : Oper} {a : Act} {Q : Exit → Act → World → Prop}
/-- 'm[k] = v'. -/
theorem wpList_put_KSet (hg : o.guard = none) (m x v : Operand) (t : TypeId) (hop : o.op = Op.mapUpdate t m x v) (e : TypeId) (K : Keyed P k) (ht : P.underlying t = some (.map k e))
    (b n : Nat) (L : List σ) (hm : a.eval m = .map (some b)) (hset : KSet P k f R w b n L) (hn : n < maxLen) (s : σ) (hx : a.eval x = f s) (kl : Lit) (hkey : keyOf P k (f s) = some kl) (val : Value) (hv : a.eval v = val) (d : DataW Unit) (ps : List MemPlace) (hval : R val = some (d, ps))
    (hK : ∀ w', KSet P k f R w' b (n + 1) (s :: L) → w.grownBy w' (some b) → wpList P ops Q rest (a.put o.dst undef) w') : wpList P ops Q (o :: rest) a w := by
  obtain ⟨D, ho, hA⟩ := hset
  exact wpList_mapUpdate_own w hg m x v t hop k e K ht R b n D hm ho hn _ val kl hx hv hkey d ps hval (fun w' h1 h2 => hK w' ⟨_, h1, hA.put ho.isMap K hkey d⟩ h2)
/-- An entry of a map's literal. -/
theorem wpList_lit_KSet (hg : o.guard = none) (m x v : Operand) (t : TypeId) (hop : o.op = Op.insert t m x v) (e : TypeId) (K : Keyed P k) (ht : P.underlying t = some (.map k e))
    (b n : Nat) (L : List σ) (hm : a.eval m = .map (some b)) (hset : KSet P k f R w b n L) (hn : n < maxLen) (s : σ) (hx : a.eval x = f s) (kl : Lit) (hkey : keyOf P k (f s) = some kl) (val : Value) (hv : a.eval v = val) (d : DataW Unit) (ps : List MemPlace) (hval : R val = some (d, ps))
    (hK : ∀ w', KSet P k f R w' b (n + 1) (s :: L) → w.grownBy w' (some b) → wpList P ops Q rest (a.put o.dst undef) w') : wpList P ops Q (o :: rest) a w := by
  obtain ⟨D, ho, hA⟩ := hset
  refine wpList_plain hg fun K' hK' => ?_
  obtain ⟨w', hrun, r1, r2⟩ := ho.update K ht hn hkey hval
  unfold Oper.wp
  simp [execOp, hop, hm, hx, hv, hrun, Result.andThen]
  exact hK' _ _ (hK w' ⟨_, r1, hA.put ho.isMap K hkey d⟩ r2)
/-- 'len(m)'. -/
theorem wpList_len_KSet (hg : o.guard = none) (m : Operand) (t : TypeId) (hop : o.op = Op.call { callee := Callee.builtin Builtin.len, args := #[m], argTypes := #[t] }) (e : TypeId) (K : Keyed P k) (ht : P.underlying t = some (.map k e))
    (b n : Nat) (L : List σ) (hm : a.eval m = .map (some b)) (hset : KSet P k f R w b n L)
    (hK : ∀ c : Nat, (c = 0 ↔ L = []) → c ≤ n → wpList P ops Q rest (a.put o.dst (.int .i64 (c : Int))) w) : wpList P ops Q (o :: rest) a w := by
  obtain ⟨D, ho, hA⟩ := hset
  exact wpList_len_own w hg m t hop k e ht R b n D hm ho (hK _ (KSet.size_zero ho hA K) ho.size_le)
/-- 'range m'. -/
theorem wpList_range_KSet (hg : o.guard = none) (m : Operand) (t : TypeId) (hop : o.op = Op.range t m) (e : TypeId) (K : Keyed P k) (ht : P.underlying t = some (.map k e))
    (b n : Nat) (L : List σ) (hm : a.eval m = .map (some b)) (hset : KSet P k f R w b n L)
    (hK : ∀ w' cnt, KRng P k f R w' b w.heap.size n L [] cnt → w.grownBy w' none → w'.heap.size = w.heap.size + 1 → wpList P ops Q rest (a.put o.dst (.pointer (some ⟨w.heap.size, 0, none⟩))) w') : wpList P ops Q (o :: rest) a w := by
  obtain ⟨D, ho, hA⟩ := hset
  exact wpList_range_own w hg m t hop k e K ht R b n D hm ho (fun w' h1 h2 h3 => hK w' _ ⟨D, _, h1, hA, fun s h => (by cases h), ⟨(by simpa using ho.size_le), .nil⟩, fun kl => ⟨fun h => ⟨h, fun s h => (by cases h)⟩, fun h => h.1⟩⟩ h2 h3)
/-- The next one, whichever it is. -/
theorem wpList_next_KSet (hg : o.guard = none) (it : Operand) (hop : o.op = Op.next it false) (K : Keyed P k) (b r n : Nat) (L done : List σ) (cnt : Nat) (hit : a.eval it = .pointer (some ⟨r, 0, none⟩)) (hset : KRng P k f R w b r n L done cnt)
    (hDone : (∀ s ∈ L, ∃ t ∈ done, f t = f s) → wpList P ops Q rest (a.put o.dst (.tuple #[.bool false])) w)
    (hMore : ∀ (s : σ) (c : Value) (y : DataW Unit × List MemPlace) (w' : World) (cnt' : Nat), s ∈ L → R c = some y → KRng P k f R w' b r n L (s :: done) cnt' → cnt' < cnt → w.grownBy w' (some r) → w'.heap.size = w.heap.size →
      (Instr.entry (.pointer (some ⟨r, 0, none⟩))).run P w' = .ok (.tuple #[f s, c]) w' → wpList P ops Q rest (a.put o.dst (.tuple #[.bool true, f s, c])) w') : wpList P ops Q (o :: rest) a w := by
  obtain ⟨D, left, hr, hA, hd, hbd, hl⟩ := hset
  refine wpList_next_ranges w hg it hop k K R (fun x : Value => x) (fun x : Value => x) (fun key kl _ => ⟨key, rfl⟩) (fun v y _ => ⟨v, rfl⟩) b r n D left cnt hit hr (fun _ h0 => hDone (KRng.all hA hl K h0)) ?_
  intro x c kl y w' cnt' hkey hlk hc hat hrg hlt hgr hsz hen
  obtain ⟨s, hs, hks⟩ := hA.only kl ((hl kl).1 hlk).1
  obtain rfl : x = f s := K.inj hkey hks
  refine hMore s c y w' cnt' hs hc ⟨D, _, hrg, hA, fun t ht => ?_, ⟨(by have := hbd.1; rw [List.length_cons]; omega), List.Pairwise.cons (fun t ht e => ((hl kl).1 hlk).2 t ht (by rw [← e]; exact hks)) hbd.2⟩, fun z => ?_⟩ hlt hgr hsz hen
  · rcases List.mem_cons.1 ht with rfl | ht
    · exact hs
    · exact hd t ht
  · simp only [Bool.and_eq_true, Bool.not_eq_true']
    rw [hl z]
    constructor
    · rintro ⟨⟨h1, h2⟩, h3⟩
      refine ⟨h1, fun t ht => ?_⟩
      rcases List.mem_cons.1 ht with rfl | ht
      · rw [hks]
        intro e
        injection e with e
        rw [e, WideAt.sameKey_self (e ▸ K.key hks)] at h3
        cases h3
      · exact h2 t ht
    · rintro ⟨h1, h2⟩
      refine ⟨⟨h1, fun t ht => h2 t (List.mem_cons_of_mem _ ht)⟩, Maps.sameKey_ne fun e => ?_⟩
      exact h2 s (List.mem_cons_self ..) (by rw [hks, e])
end
end
end Go.Proofs.YtpcgkjngpdplmaaGreatDoor
