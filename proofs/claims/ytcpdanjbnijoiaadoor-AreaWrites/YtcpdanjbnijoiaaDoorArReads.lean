import Derived.Test.YtcpdanjbnijoiaaDoorArLaw1
import Derived.ArgAppend

/-! Slices in new memory: written into, grown. -/
namespace Go.Proofs.YtcpdanjbnijoiaaDoor
open Go.RowKit
set_option linter.unusedVariables false
set_option maxRecDepth 100000

theorem Own.nw {N : Nat} {w : World} {ao : Option Addr} {n c : Nat} {l : List By} (h : Own N w (.slice ao n c) l) : Nw N w ao n c l := by
  have hl := h.len
  refine ⟨hl, own_cap h, ?_⟩
  rcases h.1.2 with ⟨e, e0⟩ | ⟨g, cap, cur, e, h2, h3, h4, h5, h6, h7⟩
  · injection e with e1 e2 e3
    exact .inl ⟨e1, e3⟩
  · injection e with e1 e2 e3
    subst e1 e3
    refine .inr ⟨g, 0, cur.toList, rfl, h2, by show _ = _; rw [h3], by simp at h6; simp; omega, fun j v hj => ?_⟩
    rw [Nat.zero_add]
    have hlt := (List.getElem?_eq_some_iff.1 hj).1
    have : (cur.toList.take (l.length * 1))[j]? = (l.map B8)[j]? := by rw [h7]
    rw [List.getElem?_take_of_lt (by omega), List.getElem?_map, hj] at this
    exact this
theorem Nw.of_block {N : Nat} {w w' : World} {ao : Option Addr} {n c : Nat} {l : List By} (h : Nw N w ao n c l) (hb : ∀ g off, ao = some ⟨g, off, none⟩ → w'.heap[g]? = w.heap[g]?) : Nw N w' ao n c l := by
  obtain ⟨h1, h2, h3⟩ := h
  refine ⟨h1, h2, ?_⟩
  rcases h3 with h3 | ⟨g, off, cur, e, h4, h5, h6⟩
  · exact .inl h3
  · exact .inr ⟨g, off, cur, e, h4, (hb g off e).trans h5, h6⟩
theorem Nw.lies {N : Nat} {w : World} {ao : Option Addr} {n c : Nat} {l : List By} (h : Nw N w ao n c l) : ∀ g off, ao = some ⟨g, off, none⟩ → N ≤ g ∧ g < w.heap.size := by
  intro g off e
  rcases h.2.2 with ⟨e1, _⟩ | ⟨g', off', cur, e1, h4, h5, _⟩
  · rw [e1] at e; cases e
  · rw [e1] at e; injection e with e; injection e with e; subst e; exact ⟨h4, h5.lt⟩
theorem Nw.below {N M : Nat} {w w' : World} {ao : Option Addr} {n c : Nat} {l : List By} (h : Nw N w ao n c l) (hb : Below M w w') (hM : w.heap.size ≤ M) : Nw N w' ao n c l :=
  h.of_block fun g off e => hb.block g (Nat.lt_of_lt_of_le (h.lies g off e).2 hM)
theorem Nw.isb {N : Nat} {w : World} {ao : Option Addr} {n c : Nat} {l : List By} (h : Nw N w ao n c l) : IsB w ao l := by
  rcases h.2.2 with ⟨e1, e2⟩ | ⟨g, off, cur, e1, h4, h5, h6, h7⟩
  · left
    exact List.eq_nil_of_length_eq_zero (by have := h.1; have := h.2.1; omega)
  · exact .inr ⟨g, off, e1, fun j v hj => h5.cell _ _ (h7 j v hj)⟩
theorem Nw.mono {N N' : Nat} {w : World} {ao : Option Addr} {n c : Nat} {l : List By} (h : Nw N w ao n c l) (hN : N' ≤ N) : Nw N' w ao n c l := by
  obtain ⟨h1, h2, h3⟩ := h
  refine ⟨h1, h2, ?_⟩
  rcases h3 with h3 | ⟨g, off, cur, e, h4, h5⟩
  · exact .inl h3
  · exact .inr ⟨g, off, cur, e, Nat.le_trans hN h4, h5⟩
theorem Nw.at {N : Nat} {w : World} {ao : Option Addr} {n c : Nat} {l : List By} (h : Nw N w ao n c l) (j : Nat) (hj : j < n) : ∃ g off, ao = some ⟨g, off, none⟩ ∧ (w.cell? ⟨g, off + j, none⟩ = some (.int .u8 ((l.getD j 0).toNat : Int))) ∧ w.frozen? ⟨g, off + j, none⟩ = false ∧ ∀ y : By, Nw N (w.setCell ⟨g, off + j, none⟩ (.int .u8 (y.toNat : Int))) ao n c (l.set j y) := by
  rcases h.2.2 with ⟨e1, e2⟩ | ⟨g, off, cur, e1, h4, h5, h6, h7⟩
  · have := h.2.1; omega
  · have hl := h.1
    obtain ⟨b, hb⟩ : ∃ b, l[j]? = some b := ⟨_, List.getElem?_eq_getElem (by omega)⟩
    refine ⟨g, off, e1, ?_, h5.frozen _, fun y => ⟨by rw [List.length_set]; exact hl, h.2.1, .inr ⟨g, off, cur.set (off + j) (B8 y), e1, h4, h5.set (off + j) (B8 y), by rw [List.length_set]; exact h6, fun i v hi => ?_⟩⟩⟩
    · rw [h5.cell _ _ (h7 j b hb), List.getD_eq_getElem?_getD, hb]; rfl
    · rw [List.getElem?_set] at hi
      rw [List.getElem?_set]
      by_cases e : j = i
      · subst e
        rw [if_pos rfl, if_pos (by omega)] at hi
        injection hi with hi; subst hi
        rw [if_pos rfl, if_pos (by have := h.2.1; omega)]
      · rw [if_neg e] at hi
        rw [if_neg (by omega)]; exact h7 i v hi

/-- One byte more: within the room, or in a new block. -/
theorem nw_append (N : Nat) (w : World) (ao : Option Addr) (n c : Nat) (l : List By) (h : Nw N w ao n c l) (hN : N ≤ w.heap.size) (y : By) (hn : n < 140737488355000) (ty : TypeId) :
    ∃ ao' c' w', (Builtin.append_ #[29, 29] ty #[.slice ao n c, .slice (some ⟨w.heap.size, 0, none⟩) 1 1]).run Tryd.prog (w.alloc (.cells #[.int .u8 (y.toNat : Int)] 5)) = .ok (.slice ao' (n + 1) c') w' ∧ Nw N w' ao' (n + 1) c' (l ++ [y]) ∧ Below 0 w w' ∧
      (∀ k, k < w.heap.size → (∀ off, ao ≠ some ⟨k, off, none⟩) → w'.heap[k]? = w.heap[k]?) ∧
      ((ao' = ao ∧ ∀ g off, ao = some ⟨g, off, none⟩ → ∀ j, j ≠ off + n → w'.cell? ⟨g, j, none⟩ = w.cell? ⟨g, j, none⟩) ∨ (∃ g', ao' = some ⟨g', 0, none⟩ ∧ w.heap.size ≤ g' ∧ ∀ k, k < w.heap.size → w'.heap[k]? = w.heap[k]?)) := by
  obtain ⟨i0, hi, hz0, hz1, hz2⟩ := info_parts Tryd.infoU8
  obtain ⟨w1, hw1⟩ : ∃ w1, w1 = w.alloc (.cells #[.int .u8 (y.toNat : Int)] 5) := ⟨_, rfl⟩
  have b1 : Below w.heap.size w w1 := by rw [hw1]; exact (Below.refl _ _).alloc (Nat.le_refl _) _
  have r1 : Row w1 w.heap.size 5 [B8 y] := by rw [hw1]; exact Row.at w _ _ _ _ rfl rfl
  have hz : w1.heap.size = w.heap.size + 1 := by rw [hw1]; simp
  rw [← hw1]
  have hnews : ∀ j u, [B8 y][j]? = some u → w1.cell? ((⟨w.heap.size, 0, none⟩ : Addr).add j) = some u := fun j u hu => by
    rw [Addr.add_mid, Nat.zero_add]; exact r1.cell j u hu
  have hone : ∀ u ∈ [B8 y], u.oneCell' = true := by
    intro u hu; simp at hu; subst hu; rfl
  have grown : ∀ ao' c' w', Own w1.heap.size w' (.slice ao' (n + 1) c') (l ++ [y]) → Below w1.heap.size w1 w' → Nw N w' ao' (n + 1) c' (l ++ [y]) ∧ Below 0 w w' ∧
      (∀ k, k < w.heap.size → (∀ off, ao ≠ some ⟨k, off, none⟩) → w'.heap[k]? = w.heap[k]?) ∧
      ((ao' = ao ∧ ∀ g off, ao = some ⟨g, off, none⟩ → ∀ j, j ≠ off + n → w'.cell? ⟨g, j, none⟩ = w.cell? ⟨g, j, none⟩) ∨ (∃ g', ao' = some ⟨g', 0, none⟩ ∧ w.heap.size ≤ g' ∧ ∀ k, k < w.heap.size → w'.heap[k]? = w.heap[k]?)) := by
    intro ao' c' w' ho hb
    have hblk : ∀ k, k < w.heap.size → w'.heap[k]? = w.heap[k]? := fun k hk => (hb.block k (by omega)).trans (b1.block k hk)
    obtain ⟨g, e, hg, _⟩ := ho.at (by omega)
    refine ⟨ho.nw.mono (by omega), (b1.mono (Nat.zero_le _)).trans (hb.mono (Nat.zero_le _)), fun k hk _ => hblk k hk, .inr ⟨g, e, by omega, hblk⟩⟩
  obtain ⟨h1, h2, h3⟩ := h
  rcases h3 with ⟨rfl, rfl⟩ | ⟨g, off, cur, rfl, h4, h5, h6, h7⟩
  · obtain rfl : n = 0 := by omega
    obtain rfl : l = [] := List.eq_nil_of_length_eq_zero h1
    obtain ⟨ao', c', w', r, ho, hb, _⟩ := run_append_more w1.heap.size w1 w1 ty none 0 0 [] rfl (own_nil _ _ (Nat.le_refl _)) (Below.refl _ _) (some ⟨w.heap.size, 0, none⟩) 1 1 [y] rfl (.inr ⟨w.heap.size, 0, rfl, fun j v hj => by
      rw [Nat.zero_add]
      exact r1.cell j _ (by
        cases j with
        | zero => injection hj with hj; subst hj; rfl
        | succ j => simp at hj)⟩) (fun h => by cases h) (by omega)
    exact ⟨ao', c', w', r, grown ao' c' w' ho hb⟩
  · have h51 : Row w1 g 5 cur := h5.below b1 h5.lt
    by_cases hroom : n + 1 ≤ c
    · have hr := run_append_room_cells (P := Tryd.prog) w1 29 ty 5 i0 Tryd.underlying29 hi g off n c ⟨w.heap.size, 0, none⟩ 1 1 [B8 y] (by rw [hz1]; rfl) hnews hone hroom
        (fun j hj => by
          have hj0 : j = 0 := by simp at hj; exact hj
          subst hj0
          rw [hz1, Nat.mul_one, Nat.add_zero, h51.cell _ _ (List.getElem?_eq_getElem (by omega))]; rfl)
        (fun j hj => h51.frozen _)
      rw [hz1, Nat.mul_one] at hr
      have hset : w1.setCells g (off + n) [B8 y] = w1.setCell ⟨g, off + n, none⟩ (B8 y) := rfl
      rw [hset] at hr
      have sb := SameBut.setCell g (off + n) (B8 y) w1
      refine ⟨_, c, _, hr, ⟨by simp [h1], hroom, .inr ⟨g, off, cur.set (off + n) (B8 y), rfl, h4, h51.set (off + n) (B8 y), by rw [List.length_set]; exact h6, fun j v hj => ?_⟩⟩, (b1.mono (Nat.zero_le _)).trans (sb.below (Below.refl 0 w1) (Nat.zero_le _)), fun k hk hne => ?_, .inl ⟨rfl, fun g' off' e j hj => ?_⟩⟩
      · rw [List.getElem?_set]
        by_cases e : j = n
        · subst e
          rw [List.getElem?_append_right (by omega), h1, Nat.sub_self] at hj
          injection hj with hj; subst hj
          rw [if_pos rfl, if_pos (by omega)]
        · rw [if_neg (by omega)]
          have hlt := (List.getElem?_eq_some_iff.1 hj).1
          simp at hlt
          rw [List.getElem?_append_left (by omega)] at hj
          exact h7 j v hj
      · exact (sb.block k (fun e => hne off (by rw [e]))).trans (b1.block k hk)
      · injection e with e; injection e with e1 e2; subst e1 e2
        have r2 := h51.set (off + n) (B8 y)
        by_cases hjl : j < cur.length
        · rw [r2.cell j _ (by rw [List.getElem?_set_ne (by omega)]; exact List.getElem?_eq_getElem hjl), h5.cell j _ (List.getElem?_eq_getElem hjl)]
        · have e1 : (w1.setCell ⟨g, off + n, none⟩ (B8 y)).cell? ⟨g, j, none⟩ = none := by
            have := r2
            unfold Row at this
            simp only [World.cell?, this]
            simp; omega
          have e2 : w.cell? ⟨g, j, none⟩ = none := by
            have := h5
            unfold Row at this
            simp only [World.cell?, this]
            simp; omega
          rw [e1, e2]
    · obtain ⟨v', w', r, ho, hgr⟩ := run_append_arg_grows (P := Tryd.prog) w1 29 ty 5 i0 (.int .u8 0) 1 1 Tryd.underlying29 hi hz0 hz1 hz2 rfl (by decide) ⟨g, off, none⟩ n c (l.map B8) (by rw [List.length_map, h1, Nat.mul_one])
        (fun j u hu => by
          rw [Addr.add_mid]
          rw [List.getElem?_map] at hu
          cases hj : l[j]? with
          | none => rw [hj] at hu; cases hu
          | some v => rw [hj] at hu; injection hu with hu; subst hu; exact h51.cell _ _ (h7 j v hj))
        ⟨w.heap.size, 0, none⟩ 1 1 [B8 y] rfl hnews (by omega) (by unfold maxLen; omega) (by omega)
      have hform : ∃ ao' c', v' = .slice ao' (n + 1) c' := by
        rcases ho.2 with ⟨e, e0⟩ | ⟨g, c, cur, e, _⟩
        · omega
        · exact ⟨_, _, e⟩
      obtain ⟨ao', c', rfl⟩ := hform
      have hown : Own w1.heap.size w' (.slice ao' (n + 1) c') (l ++ [y]) := ⟨by rw [List.length_append, List.map_append, h1]; exact ho, hgr.size⟩
      exact ⟨ao', c', w', r, grown ao' c' w' hown ((Below.refl _ _).grown hgr (Nat.le_refl _) (fun k hk => by cases hk))⟩
end Go.Proofs.YtcpdanjbnijoiaaDoor


/-! Area's statements: reads. -/
namespace Go.Proofs.YtcpdanjbnijoiaaDoor
open Go.RowKit
set_option linter.unusedVariables false
set_option maxRecDepth 100000

theorem imgAt_len {b l : List By} (h : imgAt b = some l) : l.length ≤ b.length := by
  unfold imgAt at h
  split at h
  · cases h
  · split at h
    · cases h
    · split at h
      · injection h with h; subst h; rw [List.length_take]; omega
      · cases h
theorem aread_len {s : RS} (hA : s.Ar) (a : Int) : (s.aread a).1.length ≤ 524288 := by
  unfold RS.aread
  split
  · rename_i h0
    obtain ⟨_, ha⟩ := areaE_zero h0
    have hl := abytes_len hA ha _ (Nat.le_refl _)
    have har := hA.area
    have hce := hA.cells
    have h2 : s.c.area.toNat * (32 * s.c.cells.toNat) ≤ 64 * (32 * 256) := Nat.mul_le_mul (by omega) (by omega)
    split
    · rename_i l he
      have := imgAt_len he
      show l.length ≤ _
      omega
    · simp
  · simp

theorem isb_blk {w w' : World} {ao : Option Addr} {m : List By} (h : IsB w ao m) (hb : ∀ B off, ao = some ⟨B, off, none⟩ → w'.heap[B]? = w.heap[B]?) : IsB w' ao m := by
  rcases h with h | ⟨B, off, h1, h2⟩
  · exact .inl h
  · exact .inr ⟨B, off, h1, fun j v hj => (World.cell?_of_block (w := w) (hb B off h1)).trans (h2 j v hj)⟩

/-- Two answers, each in memory of its own. -/
structure RD (w : World) (ao : Option Addr) (n ca : Nat) (la : List By) (bo : Option Addr) (cb : Nat) (lb : List By) (W : World) : Prop where
  a : Nw w.heap.size W ao n ca la
  b : Nw w.heap.size W bo n cb lb
  sep : ∀ g off off', ao = some ⟨g, off, none⟩ → bo ≠ some ⟨g, off', none⟩
  bel : Below w.heap.size w W

structure R2 (w : World) (ao : Option Addr) (n : Nat) (bo : Option Addr) (y1 y2 : By) (xo : Option Addr) (mx cx : Nat) (yo : Option Addr) (my cy : Nat) (W : World) : Prop where
  x : Nw w.heap.size W xo mx cx (List.replicate mx y1)
  y : Nw w.heap.size W yo my cy (List.replicate my y2)
  ia : IsB W ao (List.replicate n y1)
  ib : IsB W bo (List.replicate n y2)
  la : ∀ g off, ao = some ⟨g, off, none⟩ → g < W.heap.size
  lb : ∀ g off, bo = some ⟨g, off, none⟩ → g < W.heap.size
  xa : ∀ g off, ao = some ⟨g, off, none⟩ → xo = ao ∨ ∀ off', xo ≠ some ⟨g, off', none⟩
  yb : ∀ g off, bo = some ⟨g, off, none⟩ → yo = bo ∨ ∀ off', yo ≠ some ⟨g, off', none⟩
  s1 : ∀ g off off', xo = some ⟨g, off, none⟩ → yo ≠ some ⟨g, off', none⟩
  s2 : ∀ g off off', bo = some ⟨g, off, none⟩ → xo ≠ some ⟨g, off', none⟩
  s3 : ∀ g off off', ao = some ⟨g, off, none⟩ → yo ≠ some ⟨g, off', none⟩
  lx : n ≤ mx
  ly : n ≤ my
  bel : Below w.heap.size w W
theorem R2.turn {w : World} {ao : Option Addr} {n : Nat} {bo : Option Addr} {y1 y2 : By} {xo : Option Addr} {mx cx : Nat} {yo : Option Addr} {my cy : Nat} {W : World} (h : R2 w ao n bo y1 y2 xo mx cx yo my cy W) : R2 w bo n ao y2 y1 yo my cy xo mx cx W :=
  ⟨h.y, h.x, h.ib, h.ia, h.lb, h.la, h.yb, h.xa, fun g off off' e e2 => h.s1 g off' off e2 e, h.s3, h.s2, h.ly, h.lx, h.bel⟩
theorem R2.app {w : World} {ao : Option Addr} {n : Nat} {bo : Option Addr} {y1 y2 : By} {xo : Option Addr} {mx cx : Nat} {yo : Option Addr} {my cy : Nat} {W : World} (h : R2 w ao n bo y1 y2 xo mx cx yo my cy W) {xo' : Option Addr} {cx' : Nat} {W' : World}
    (hx : Nw w.heap.size W' xo' (mx + 1) cx' (List.replicate mx y1 ++ [y1])) (hb : Below 0 W W') (hk : ∀ k, k < W.heap.size → (∀ off, xo ≠ some ⟨k, off, none⟩) → W'.heap[k]? = W.heap[k]?)
    (hc : (xo' = xo ∧ ∀ g off, xo = some ⟨g, off, none⟩ → ∀ j, j ≠ off + mx → W'.cell? ⟨g, j, none⟩ = W.cell? ⟨g, j, none⟩) ∨ (∃ g', xo' = some ⟨g', 0, none⟩ ∧ W.heap.size ≤ g' ∧ ∀ k, k < W.heap.size → W'.heap[k]? = W.heap[k]?)) :
    R2 w ao n bo y1 y2 xo' (mx + 1) cx' yo my cy W' := by
  have hsz := hb.size
  have hlx := h.lx
  have new : ∀ g, g < W.heap.size → ∀ off', (∀ off, xo ≠ some ⟨g, off, none⟩) → xo' ≠ some ⟨g, off', none⟩ := fun g hg off' hne e => by
    rcases hc with ⟨e1, _⟩ | ⟨g', e1, h2, _⟩
    · rw [e1] at e; exact hne off' e
    · rw [e1] at e; injection e with e; injection e with e; omega
  refine ⟨by rw [List.replicate_succ']; exact hx, h.y.of_block fun g off e => hk g (h.y.lies g off e).2 (fun off' e2 => h.s1 g off' off e2 e), ?_, isb_blk h.ib fun g off e => hk g (h.lb g off e) (fun off' => h.s2 g off off' e), fun g off e => Nat.lt_of_lt_of_le (h.la g off e) hsz, fun g off e => Nat.lt_of_lt_of_le (h.lb g off e) hsz, ?_, h.yb, ?_, ?_, h.s3, by omega, h.ly, ?_⟩
  · rcases h.ia with h1 | ⟨g, off, e, hcl⟩
    · exact .inl h1
    · refine .inr ⟨g, off, e, fun j v hj => ?_⟩
      have hjn : j < n := by have := (List.getElem?_eq_some_iff.1 hj).1; simpa using this
      rw [← hcl j v hj]
      rcases h.xa g off e with e2 | hne
      · rcases hc with ⟨_, hcc⟩ | ⟨_, _, _, hall⟩
        · exact hcc g off (e2.trans e) (off + j) (by omega)
        · exact World.cell?_of_block (hall g (h.la g off e))
      · exact World.cell?_of_block (hk g (h.la g off e) hne)
  · intro g off e
    rcases h.xa g off e with e2 | hne
    · rcases hc with ⟨e3, _⟩ | ⟨g', e3, h2, _⟩
      · exact .inl (e3.trans e2)
      · refine .inr fun off' e4 => ?_
        rw [e3] at e4; injection e4 with e4; injection e4 with e4
        have := h.la g off e
        omega
    · exact .inr fun off' => new g (h.la g off e) off' hne
  · intro g off off' e e2
    have hy := (h.y.lies g off' e2).2
    exact new g hy off (fun off2 e3 => h.s1 g off2 off' e3 e2) e
  · intro g off off' e
    exact new g (h.lb g off e) off' (fun off2 => h.s2 g off off2 e)
  · refine ⟨hb.os.trans h.bel.os, hb.tape.trans h.bel.tape, hb.output.trans h.bel.output, Nat.le_trans h.bel.size hsz, fun k hk' => ?_⟩
    refine (hk k (Nat.lt_of_lt_of_le hk' h.bel.size) (fun off e => ?_)).trans (h.bel.block k hk')
    have := (h.x.lies k off e).1
    omega

/-- append of one byte onto a slice in new memory. -/
theorem wpList_append_nw {ops : Array Oper} {rest : List Oper} {o : Oper} {a : Act} {w : World} {Q : Exit → Act → World → Prop} (hgd : o.guard = none) (s x : Operand)
    (ho : o.op = .call { callee := .builtin .append, args := #[s, x], argTypes := #[29, 29] })
    (N : Nat) (ao : Option Addr) (n c : Nat) (l : List By) (h : Nw N w ao n c l) (hN : N ≤ w.heap.size) (y : By) (yy : Int) (hyy : yy = (y.toNat : Int)) (hn : n < 140737488355000)
    (hs : a.eval s = .slice ao n c) (hx : a.eval x = .slice (some ⟨w.heap.size, 0, none⟩) 1 1)
    (hq : ∀ ao' c' w', Nw N w' ao' (n + 1) c' (l ++ [y]) → Below 0 w w' → (∀ k, k < w.heap.size → (∀ off, ao ≠ some ⟨k, off, none⟩) → w'.heap[k]? = w.heap[k]?) →
      ((ao' = ao ∧ ∀ g off, ao = some ⟨g, off, none⟩ → ∀ j, j ≠ off + n → w'.cell? ⟨g, j, none⟩ = w.cell? ⟨g, j, none⟩) ∨ (∃ g', ao' = some ⟨g', 0, none⟩ ∧ w.heap.size ≤ g' ∧ ∀ k, k < w.heap.size → w'.heap[k]? = w.heap[k]?)) → wpList Tryd.prog ops Q rest (a.put o.dst (.slice ao' (n + 1) c')) w') :
    wpList Tryd.prog ops Q (o :: rest) a (w.alloc (.cells #[.int .u8 yy] 5)) := by
  subst hyy
  refine wpList_plain hgd fun K hK => ?_
  obtain ⟨ao', c', w', hrun, h2, h3, h4, h5⟩ := nw_append N w ao n c l h hN y hn o.type
  unfold Oper.wp execOp
  simp only [ho, resolve, invoke, builtin, Sem.run_bind, Sem.run_pure, Result.andThen_ok, List.map_toArray, List.map_cons, List.map_nil, hs, hx, hrun]
  exact hK _ _ (hq ao' c' w' h2 h3 h4 h5)

theorem mark_step (L : List By) (y : By) (i : Nat) (hi : i < L.length) : (List.replicate i y ++ L.drop i).set i y = List.replicate (i + 1) y ++ L.drop (i + 1) := by
  rw [List.set_append_right _ _ (by simp), List.length_replicate, Nat.sub_self, List.drop_eq_getElem_cons hi, List.set_cons_zero, List.replicate_succ', List.append_assoc]; rfl
/-- One byte of the first answer written. -/
theorem RD.mark {w : World} {ao : Option Addr} {n ca : Nat} {la : List By} {bo : Option Addr} {cb : Nat} {lb : List By} {W : World} (h : RD w ao n ca la bo cb lb W) (i : Nat) (hi : i < n) : ∃ g off old, ao = some ⟨g, off, none⟩ ∧ W.cell? ⟨g, off + i, none⟩ = some (.int .u8 old) ∧ W.frozen? ⟨g, off + i, none⟩ = false ∧ ∀ y : By, RD w ao n ca (la.set i y) bo cb lb (W.setCell ⟨g, off + i, none⟩ (.int .u8 (y.toNat : Int))) := by
  obtain ⟨g, off, e, hc, hf, hs⟩ := h.a.at i hi
  have sb := fun y : By => SameBut.setCell g (off + i) (.int .u8 (y.toNat : Int)) W
  refine ⟨g, off, _, e, hc, hf, fun y => ⟨hs y, h.b.of_block fun g' off' e' => (sb y).block g' (fun e2 => h.sep g off off' e (by rw [← e2]; exact e')), h.sep, (sb y).below h.bel (h.a.lies g off e).1⟩⟩
theorem RD.turn {w : World} {ao : Option Addr} {n ca : Nat} {la : List By} {bo : Option Addr} {cb : Nat} {lb : List By} {W : World} (h : RD w ao n ca la bo cb lb W) : RD w bo n cb lb ao ca la W :=
  ⟨h.b, h.a, fun g off off' e e2 => h.sep g off' off e2 e, h.bel⟩
theorem RD.r2 {w : World} {ao : Option Addr} {n ca : Nat} {y1 y2 : By} {bo : Option Addr} {cb : Nat} {W : World} (h : RD w ao n ca (List.replicate n y1) bo cb (List.replicate n y2) W) : R2 w ao n bo y1 y2 ao n ca bo n cb W :=
  ⟨h.a, h.b, h.a.isb, h.b.isb, fun g off e => (h.a.lies g off e).2, fun g off e => (h.b.lies g off e).2, fun _ _ _ => .inl rfl, fun _ _ _ => .inl rfl, h.sep, fun g off off' e e2 => h.sep g off' off e2 e, h.sep, Nat.le_refl _, Nat.le_refl _, h.bel⟩
theorem R2.cx_ {w : World} {ao : Option Addr} {n : Nat} {bo : Option Addr} {y1 y2 : By} {xo : Option Addr} {mx cx : Nat} {yo : Option Addr} {my cy : Nat} {W : World} (h : R2 w ao n bo y1 y2 xo mx cx yo my cy W) (i : Nat) (hi : i < mx) : ∃ g off, xo = some ⟨g, off, none⟩ ∧ W.cell? ⟨g, off + i, none⟩ = some (.int .u8 (y1.toNat : Int)) := by
  obtain ⟨g, off, e, hc, _⟩ := h.x.at i hi
  refine ⟨g, off, e, ?_⟩
  rw [hc, List.getD_eq_getElem?_getD, List.getElem?_replicate, if_pos hi]; rfl
theorem R2.ca_ {w : World} {ao : Option Addr} {n : Nat} {bo : Option Addr} {y1 y2 : By} {xo : Option Addr} {mx cx : Nat} {yo : Option Addr} {my cy : Nat} {W : World} (h : R2 w ao n bo y1 y2 xo mx cx yo my cy W) (i : Nat) (hi : i < n) : ∃ g off, ao = some ⟨g, off, none⟩ ∧ W.cell? ⟨g, off + i, none⟩ = some (.int .u8 (y1.toNat : Int)) := by
  rcases h.ia with h1 | ⟨g, off, e, hc⟩
  · have := congrArg List.length h1; simp at this; omega
  · exact ⟨g, off, e, hc i y1 (by rw [List.getElem?_replicate, if_pos hi])⟩

end Go.Proofs.YtcpdanjbnijoiaaDoor
