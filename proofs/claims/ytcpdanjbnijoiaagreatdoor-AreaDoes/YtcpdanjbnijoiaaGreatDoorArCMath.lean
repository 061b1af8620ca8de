import Derived.Test.YtcpdanjbnijoiaaGreatDoorArDoes
import Derived.Test.YtcpdanjbnijoiaaGreatDoorL4Open2
import Derived.Test.YtcpdanjbnijoiaaGreatDoorArLaw1

/-! Area's statements: a script that came in. -/
namespace Go.Proofs.YtcpdanjbnijoiaaGreatDoor
open Go.ChangeShapes Go.WideShapes Go.ChangeAt Go.RowKit
set_option maxRecDepth 100000
section
variable {H : Type} {enc : TypeId × Value → H} {W : World} {n : Nat} {cs : List Value} {x : DataW H × List MemPlace}

theorem open_step14 (h : DataW.trod enc Tryz.prog W 0 (fun _ => true) true n 42 cs = some x) (hsz : ∀ k ∈ x.1.weights Tryz.prog 42, k ≤ reachBytes) :
    ∃ (k a b : Int) (mo : Option Addr) (mc : Nat) (m : List By), cs = stepC k a b mo m.length mc ∧ IsB W mo m ∧ (mo = none → mc = 0) ∧ m.length ≤ mc ∧ m.length ≤ reachBytes ∧ b < 9223372036854775808 := by
  obtain ⟨ys, m, rfl, rfl, hl, hx, hf⟩ := DataW.trod_struct Tryz.underlying42 h
  have hl4 : cs.length = 4 := by rw [hl]; kernel_rfl
  have hx4 : ys.length = 4 := hx
  obtain ⟨z0, e0, _⟩ := int_at (i := 0) (by omega) (by omega) (hf 0 _ rfl)
  obtain ⟨z1, e1, _⟩ := int_at (i := 1) (by omega) (by omega) (hf 1 _ rfl)
  obtain ⟨z2, e2, _, ha⟩ := int_at (i := 2) (by omega) (by omega) (hf 2 _ rfl)
  have h4 : DataW.trod enc Tryz.prog W 0 (fun _ => true) true m 40 ((cs.drop 3).take (Tryz.prog.cellsOf 40)) = ys[3]? := hf 3 _ rfl
  rw [List.getElem?_eq_getElem (by omega)] at h4
  obtain ⟨mo, mc, mm, e4, ib, hn, hc, hm⟩ := open_bytesL h4 (fun k hk => hsz k (by
    simp only [DataW.weights, Tryz.underlying42]
    exact DataW.weights_mem_each (j := 3) (t := 40) (d := ys[3].1) rfl (by rw [List.getElem?_map, List.getElem?_eq_getElem (by omega)]; rfl) k hk))
  refine ⟨z0, z1, z2, mo, mc, mm, ?_, ib, hn, hc, by omega, ha⟩
  rw [show Tryz.prog.cellsOf 40 = 1 by kernel_rfl] at e4
  match cs, hl4 with
  | [a0, a1, a2, a3], _ =>
    simp at e0 e1 e2 e4
    subst e0 e1 e2 e4; rfl

theorem open_steps14 (h : DataW.trod enc Tryz.prog W 0 (fun _ => true) true n 29 cs = some x) (hsz : ∀ k ∈ x.1.weights Tryz.prog 29, k ≤ reachBytes) :
    ∃ (a : Option Addr) (len cap : Nat), cs = [.slice a len cap] ∧ len * 48 ≤ 140737488355328 ∧ ∀ j, j < len → ∃ SB off, a = some ⟨SB, off, none⟩ ∧ SB < W.heap.size ∧ StepIn W SB (off + j * 4) := by
  rcases Deep.open_slice Tryz.underlying29 h with ⟨rfl, rfl⟩ | ⟨a, len, cap, m, n', D, Pl, rfl, hb, hl, hm, hmm, rfl, hel⟩
  · exact ⟨none, 0, 0, rfl, by simp, by simp⟩
  · rw [show Tryz.prog.cellsOf 42 = 4 by kernel_rfl] at hel
    simp at hmm
    subst hmm
    simp only [DataW.weights, Tryz.underlying29] at hsz
    have hlen : len * 48 ≤ 140737488355328 := by
      have h1 := hsz _ (List.mem_cons_self ..)
      rw [show Tryz.prog.bytesOf 42 = 48 by kernel_rfl] at h1
      simp only [List.length_map, List.length_range, reachBytes] at h1
      omega
    refine ⟨some a, len, m, rfl, hlen, fun j hj => ?_⟩
    obtain ⟨b, off, spot⟩ := a
    obtain ⟨cs', h1, h2⟩ := hel j (by omega)
    obtain ⟨_, hl3, hc⟩ := World.cells?_some h1
    obtain ⟨k, ka, kb, mo, mc, mm, e, ib, hn, hmc, hml, ha⟩ := open_step14 h2 (fun k hk => hsz k (by
      refine List.mem_cons_of_mem _ (List.mem_append.2 (.inl (weights_all (d := D j) ?_ hk)))
      exact List.mem_map.2 ⟨j, List.mem_range.2 hj, rfl⟩))
    subst e
    have hspot : spot = none := by
      obtain ⟨cs0, k1, _⟩ := hel 0 (by omega)
      obtain ⟨_, hl0, hc0⟩ := World.cells?_some k1
      have h2 := hc0 0 (by omega)
      rw [List.getElem?_eq_getElem (by omega)] at h2
      simpa [Addr.add] using World.cell?_spot h2
    subst hspot
    have hrg : W.rangeAt b (off + j * 4) (stepC k ka kb mo mm.length mc) := fun i v hv => by
      have hil := (List.getElem?_eq_some_iff.1 hv).1
      have h3 := hc i (by omega)
      rw [add_add, hv] at h3
      rw [← h3, Nat.add_assoc]
    have hb0 : b < W.heap.size := World.block_lt_of_cell? _ _ (hrg 0 _ rfl)
    exact ⟨b, off, rfl, hb0, k, ka, kb, mo, mm.length, mc, mm, ha, hrg, rfl, by simp only [reachBytes] at hml; omega, hmc, hn, ib⟩
end
end Go.Proofs.YtcpdanjbnijoiaaGreatDoor


/-! The program's area as plain data: the pages in use as a list; erases along it; the image that Parse finds. -/
namespace Go.Proofs.YtcpdanjbnijoiaaGreatDoor
open Go.RowKit
set_option linter.unusedVariables false

/-- The pages from the p-th on, m of them, that aren't blank. -/
def usedL (s : RS) (a : Int) : Nat → Nat → List Nat
  | _, 0 => []
  | p, m + 1 => if isBlank (s.pages.getD (s.pgN a p) []) = true then usedL s a (p + 1) m else s.pgN a p :: usedL s a (p + 1) m
theorem usedL_snoc (s : RS) (a : Int) : ∀ (m p : Nat), usedL s a p (m + 1) = usedL s a p m ++ (if isBlank (s.pages.getD (s.pgN a (p + m)) []) = true then [] else [s.pgN a (p + m)])
  | 0, p => by
    unfold usedL usedL
    rw [Nat.add_zero, List.nil_append]
  | m + 1, p => by
    have ih := usedL_snoc s a m (p + 1)
    rw [usedL, ih, show p + 1 + m = p + (m + 1) by omega]
    rw [show usedL s a p (m + 1) = if isBlank (s.pages.getD (s.pgN a p) []) = true then usedL s a (p + 1) m else s.pgN a p :: usedL s a (p + 1) m from rfl]
    split <;> rfl
theorem usedL_len (s : RS) (a : Int) : ∀ (m p : Nat), (usedL s a p m).length ≤ m
  | 0, _ => Nat.le_refl _
  | m + 1, p => by
    have := usedL_len s a m (p + 1)
    unfold usedL
    split
    · omega
    · rw [List.length_cons]; omega
theorem usedL_mem {s : RS} {a : Int} : ∀ (m p : Nat), ∀ q ∈ usedL s a p m, ∃ j, p ≤ j ∧ j < p + m ∧ q = s.pgN a j
  | 0, _, q, h => by cases h
  | m + 1, p, q, h => by
    unfold usedL at h
    split at h
    · obtain ⟨j, h1, h2, h3⟩ := usedL_mem m (p + 1) q h
      exact ⟨j, by omega, by omega, h3⟩
    · rcases List.mem_cons.1 h with h | h
      · exact ⟨p, Nat.le_refl _, by omega, h⟩
      · obtain ⟨j, h1, h2, h3⟩ := usedL_mem m (p + 1) q h
        exact ⟨j, by omega, by omega, h3⟩
theorem usedL_congr {s t : RS} {a : Int} (hc : t.c = s.c) : ∀ (m p : Nat), (∀ j, p ≤ j → j < p + m → t.pages.getD (s.pgN a j) [] = s.pages.getD (s.pgN a j) []) → usedL t a p m = usedL s a p m
  | 0, _, _ => rfl
  | m + 1, p, h => by
    unfold usedL
    rw [pgN_c hc, h p (Nat.le_refl _) (by omega), usedL_congr hc m (p + 1) (fun j h1 h2 => h j (by omega) (by omega))]

/-- May one of these pages not be erased any more? -/
def wornL (s : RS) (L : List Nat) : Bool := L.any fun q => decide (s.c.erases ≤ s.erases.getD q 0)
theorem wornL_used (s : RS) (a : Int) : ∀ (m p : Nat), wornL s (usedL s a p m) = (List.range' p m).any (s.wornAt a)
  | 0, _ => rfl
  | m + 1, p => by
    rw [List.range'_succ, List.any_cons, ← wornL_used s a m (p + 1)]
    rw [show usedL s a p (m + 1) = if isBlank (s.pages.getD (s.pgN a p) []) = true then usedL s a (p + 1) m else s.pgN a p :: usedL s a (p + 1) m from rfl]
    unfold RS.wornAt
    cases h : isBlank (s.pages.getD (s.pgN a p) []) with
    | true => rw [if_pos rfl]; rfl
    | false => rw [if_neg (by decide)]; unfold wornL; rw [List.any_cons]; rfl
theorem aworn_used (s : RS) (a : Int) : s.aworn a = wornL s (usedL s a 0 s.c.area.toNat) := by
  rw [wornL_used, RS.aworn, List.range_eq_range']

/-- Erases along a list of pages. -/
def eraseL : List Nat → RS → RS × Int
  | [], s => (s, 0)
  | q :: L, s => if s.eraseE (q : Int) = 0 then eraseL L (s.erase (q : Int)) else (s.erase (q : Int), s.eraseE (q : Int))
theorem erase_other (s : RS) (q j : Nat) (h : j ≠ q) : (s.erase (q : Int)).pages.getD j [] = s.pages.getD j [] := by
  unfold RS.erase
  split
  · show (s.pages.set _ _).getD j [] = _
    rw [Int.toNat_natCast]
    exact getD_set_ne' _ _ _ _ _ h
  · rfl
theorem eraseGo_eq {a : Int} (ha : a = 0 ∨ a = 1) : ∀ (m p : Nat) (s : RS), s.Ar → s.gone = false → p + m ≤ s.c.area.toNat → eraseGo a m p s = eraseL (usedL s a p m) s
  | 0, _, _, _, _, _ => rfl
  | m + 1, p, s, h, hg, hm => by
    obtain ⟨p1, p2, p3⟩ := h.pg ha (p := p) (by omega)
    unfold eraseGo usedL
    split
    · exact eraseGo_eq ha m (p + 1) s h hg (by omega)
    · unfold eraseL
      split
      · rename_i h1 h2
        rw [eraseGo_eq ha m (p + 1) (s.erase ((s.pgN a p : Nat) : Int)) (h.erase hg p2) (eraseE_zero h hg p2 h2) (by rw [erase_c]; omega)]
        congr 1
        refine usedL_congr (erase_c _ _) m (p + 1) fun j h3 h4 => erase_other _ _ _ fun e => ?_
        have := pg_inj h ha (by omega) (by omega) e
        omega
      · rfl

/-- What stands between two rounds of the erases. -/
structure EzL (R : RS × Int) (s0 s' : RS) (k : Nat) (L : List Nat) : Prop where
  ar : s'.Ar
  good : s'.Good
  c : s'.c = s0.c
  pl : s'.pages.length = s0.pages.length
  n : s'.n ≤ s0.n + k
  g : s'.gone = false
  go : eraseL (L.drop k) s' = R
theorem erase_pl (s : RS) (p : Int) : (s.erase p).pages.length = s.pages.length := by
  unfold RS.erase; split
  · show (s.pages.set _ _).length = _
    rw [List.length_set]
  · rfl
theorem EzL.next {R : RS × Int} {s0 s' : RS} {k : Nat} {L : List Nat} (h : EzL R s0 s' k L) (q : Nat) (hq : L[k]? = some q) (hl : q < s0.pages.length) (he : s'.eraseE (q : Int) = 0) : EzL R s0 (s'.erase (q : Int)) (k + 1) L := by
  obtain ⟨g1, g2⟩ := h.good.erase (q : Int)
  have hl' : q < s'.pages.length := by rw [h.pl]; exact hl
  refine ⟨h.ar.erase h.g hl', g1, (erase_c _ _).trans h.c, (erase_pl _ _).trans h.pl, by have := h.n; omega, eraseE_zero h.ar h.g hl' he, ?_⟩
  have hk := (List.getElem?_eq_some_iff.1 hq)
  obtain ⟨hk1, hk2⟩ := hk
  rw [← h.go, List.drop_eq_getElem_cons hk1, hk2]
  conv => rhs; unfold eraseL
  rw [if_pos he]
theorem EzL.out {R : RS × Int} {s0 s' : RS} {k : Nat} {L : List Nat} (h : EzL R s0 s' k L) (q : Nat) (hq : L[k]? = some q) (he : ¬ s'.eraseE (q : Int) = 0) : R = (s'.erase (q : Int), s'.eraseE (q : Int)) := by
  obtain ⟨hk1, hk2⟩ := List.getElem?_eq_some_iff.1 hq
  rw [← h.go, List.drop_eq_getElem_cons hk1, hk2]
  conv => lhs; unfold eraseL
  rw [if_neg he]
theorem EzL.fin {R : RS × Int} {s0 s' : RS} {k : Nat} {L : List Nat} (h : EzL R s0 s' k L) (hk : L.length ≤ k) : R = (s', 0) := by
  rw [← h.go, List.drop_of_length_le hk]; rfl

/-- The image at the head of bytes, as Parse of all of them tells it. -/
theorem scan_take {b : List By} {n : Nat} (hn : 16 ≤ n) (hl : n ≤ b.length) (h : scan (b.take n) 0 16 = none) : scan b 0 16 = none := by
  obtain ⟨_, h2⟩ := scan_none 16 0 (by omega) h
  refine scan_all 16 0 (by omega) fun j h3 h4 => ?_
  have := h2 j h3 h4
  rw [List.getD_eq_getElem?_getD, List.getElem?_take_of_lt (by omega), ← List.getD_eq_getElem?_getD] at this
  exact this
theorem scan_take' {b : List By} {n : Nat} (hn : 16 ≤ n) (hl : n ≤ b.length) (h : scan b 0 16 = none) : scan (b.take n) 0 16 = none := by
  obtain ⟨_, h2⟩ := scan_none 16 0 (by omega) h
  refine scan_all 16 0 (by rw [List.length_take]; omega) fun j h3 h4 => ?_
  rw [List.getD_eq_getElem?_getD, List.getElem?_take_of_lt (by omega), ← List.getD_eq_getElem?_getD]
  exact h2 j h3 h4
theorem num_take {b : List By} {n : Nat} (hn : 16 ≤ n) : num4 ((b.take n).drop 12) = num4 (b.drop 12) := by
  rw [num4_drop, num4_drop]
  have : ∀ j, j < 16 → (b.take n).getD j 0 = b.getD j 0 := fun j hj => by
    rw [List.getD_eq_getElem?_getD, List.getElem?_take_of_lt (by omega), ← List.getD_eq_getElem?_getD]
  rw [this 12 (by omega), this 13 (by omega), this 14 (by omega), this 15 (by omega)]
/-- Where the image ends that bytes begin with. -/
def endOf (b : List By) : Option Nat :=
  match parse b with
  | .ok _ => some b.length
  | .error ei => if ei.1 = 7 then some ei.2 else none
theorem endOf_eq (b : List By) (hl : b.length ≤ 524288) : imgAt b = (endOf b).map b.take ∧ ∀ i, endOf b = some i → i ≤ b.length := by
  unfold endOf
  cases hp : parse b with
  | ok q =>
    obtain ⟨s, k, v, p, t⟩ := q
    obtain ⟨_, _, _, h4, h5, h6, h7⟩ := parse_img hp
    refine ⟨?_, fun i hi => by injection hi with hi; omega⟩
    have hn : num4 (b.drop 12) = p.length := by
      rw [h7]
      have : (cover s k v p ++ t).drop 12 = le4 p.length ++ (p ++ t) := by simp [cover, le4]
      rw [this]; exact num4_le4 _ (by omega) _
    unfold imgAt
    rw [hn, if_neg (by omega), if_neg (by omega), show 48 + p.length = b.length by omega, List.take_length, hp]
    simp
  | error ea =>
    obtain ⟨e, i⟩ := ea
    dsimp only
    unfold parse at hp
    rw [if_neg (by omega)] at hp
    split at hp
    · rename_i e' i' hs
      injection hp with hp; injection hp with h1 h2
      subst h1; subst h2
      have h56 := (scan_some 16 0 (by omega) _ _ hs).2
      rw [if_neg (by omega)]
      refine ⟨?_, fun i hi => by cases hi⟩
      unfold imgAt
      split
      · rfl
      · rename_i h16
        split
        · rfl
        · rename_i h48
          cases hq : parse (b.take (48 + num4 (b.drop 12))) with
          | error _ => rfl
          | ok q =>
            unfold parse at hq
            split at hq
            · cases hq
            · split at hq
              · cases hq
              · rename_i hs2
                rw [scan_take (by omega) (by omega) hs2] at hs
                cases hs
    · rename_i hs
      simp only at hp
      have hl16 := (scan_none 16 0 (by omega) hs).1
      have hnt := num_take (b := b) (n := 48 + num4 (b.drop 12)) (by omega)
      split at hp
      · rename_i hbig
        injection hp with hp; injection hp with h1 h2
        subst h1; subst h2
        rw [if_neg (by decide)]
        refine ⟨?_, fun i hi => by cases hi⟩
        unfold imgAt
        rw [if_neg (by omega), if_pos (by omega)]; rfl
      · split at hp
        · rename_i hsm
          injection hp with hp; injection hp with h1 h2
          subst h1; subst h2
          rw [if_neg (by decide)]
          refine ⟨?_, fun i hi => by cases hi⟩
          unfold imgAt
          rw [if_neg (by omega), if_pos (by omega)]; rfl
        · split at hp
          · rename_i hb1 hb2 hb3
            injection hp with hp; injection hp with h1 h2
            subst h1; subst h2
            rw [if_pos rfl]
            refine ⟨?_, fun i hi => by injection hi with hi; omega⟩
            unfold imgAt
            rw [if_neg (by omega), if_neg (by omega)]
            have hlt : (b.take (48 + num4 (b.drop 12))).length = 48 + num4 (b.drop 12) := by rw [List.length_take]; omega
            have : ∃ q, parse (b.take (48 + num4 (b.drop 12))) = .ok q := by
              unfold parse
              rw [if_neg (by omega), scan_take' (by omega) (by omega) hs]
              simp only
              rw [hnt, if_neg hb1, if_neg (by omega), if_neg (by omega)]
              exact ⟨_, rfl⟩
            obtain ⟨q, hq⟩ := this
            rw [hq]
            simp [Nat.add_comm]
          · cases hp
end Go.Proofs.YtcpdanjbnijoiaaGreatDoor
