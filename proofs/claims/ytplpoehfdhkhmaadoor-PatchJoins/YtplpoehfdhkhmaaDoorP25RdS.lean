import Derived.Test.YtplpoehfdhkhmaaDoorP25PtA
import Derived.Test.YtplpoehfdhkhmaaDoorP25PtB
import Derived.Test.YtplpoehfdhkhmaaDoorP25PtC
import Derived.Test.YtplpoehfdhkhmaaDoorP25PtD
import Derived.Test.YtplpoehfdhkhmaaDoorP25PtE
import Derived.Great.BuildSlice

/-! The reference's patch: part, whole; a part more. -/
namespace Go.Proofs.YtplpoehfdhkhmaaDoor
open Go.RowKit
set_option linter.unusedVariables false

theorem partR_end {bef aft : Nat} {l : List Pt} {p : List By} {a hv n : Nat} (hn : p.length = n) (h : n <= a) : partR bef aft l p a hv = .error (6, n) := by
  unfold partR
  rw [if_pos (by omega), hn]
theorem partR_kind {bef aft : Nat} {l : List Pt} {p : List By} {a hv n : Nat} (hn : p.length = n) (h : a < n) (h1 : (p.getD a 0).toNat ≠ 1) (h2 : (p.getD a 0).toNat ≠ 2) : partR bef aft l p a hv = .error (5, a) := by
  unfold partR
  rw [if_neg (by omega), if_pos ⟨h1, h2⟩]
theorem partR_lay {bef aft : Nat} {l : List Pt} {p : List By} {a hv n : Nat} (hn : p.length = n) (h : a < n) (h2 : (p.getD a 0).toNat = 2) : partR bef aft l p a hv =
    if n < a + 5 then .error (6, n) else if num4 (p.drop (a + 1)) < 1 ∨ aft < hv + num4 (p.drop (a + 1)) ∨ behB l true 0 = false then .error (5, a)
    else if n < a + 5 + num4 (p.drop (a + 1)) then .error (6, n) else .ok (⟨true, 0, num4 (p.drop (a + 1)), (p.drop (a + 5)).take (num4 (p.drop (a + 1)))⟩, a + 5 + num4 (p.drop (a + 1))) := by
  unfold partR
  have e1 : nxt 2 a = a + 5 := rfl
  have e2 : frmOf p 2 a = 0 := rfl
  have e3 : a + 5 - 4 = a + 1 := by omega
  rw [if_neg (by omega), h2, if_neg (by omega), e1, e2, e3, hn]
  generalize num4 (p.drop (a + 1)) = N
  by_cases hs : n < a + 5
  · rw [if_pos hs, if_pos hs]
  · rw [if_neg hs, if_neg hs]
    have e4 : decide ((2 : Nat) = 2) = true := rfl
    rw [e4]
    by_cases hq : N < 1 ∨ aft < hv + N ∨ behB l true 0 = false
    · rw [if_pos (by rcases hq with h | h | h; exact .inl h; exact .inr (.inl h); exact .inr (.inr (.inr h))), if_pos hq]
    · rw [if_neg (by rintro (h | h | h | h); exact hq (.inl h); exact hq (.inr (.inl h)); exact absurd h.1 (by decide); exact hq (.inr (.inr h))), if_neg hq, if_pos rfl]
theorem partR_copy {bef aft : Nat} {l : List Pt} {p : List By} {a hv n : Nat} (hn : p.length = n) (h : a < n) (h2 : (p.getD a 0).toNat = 1) : partR bef aft l p a hv =
    if n < a + 9 then .error (6, n) else if num4 (p.drop (a + 5)) < 1 ∨ aft < hv + num4 (p.drop (a + 5)) ∨ bef < num4 (p.drop (a + 1)) + num4 (p.drop (a + 5)) ∨ behB l false (num4 (p.drop (a + 1))) = false then .error (5, a)
    else .ok (⟨false, num4 (p.drop (a + 1)), num4 (p.drop (a + 5)), []⟩, a + 9) := by
  unfold partR
  have e1 : nxt 1 a = a + 9 := rfl
  have e2 : frmOf p 1 a = num4 (p.drop (a + 1)) := rfl
  have e3 : a + 9 - 4 = a + 5 := by omega
  rw [if_neg (by omega), h2, if_neg (by omega), e1, e2, e3, hn]
  generalize num4 (p.drop (a + 1)) = F
  generalize num4 (p.drop (a + 5)) = N
  by_cases hs : n < a + 9
  · rw [if_pos hs, if_pos hs]
  · rw [if_neg hs, if_neg hs]
    have e4 : decide ((1 : Nat) = 2) = false := rfl
    rw [e4]
    by_cases hq : N < 1 ∨ aft < hv + N ∨ bef < F + N ∨ behB l false F = false
    · rw [if_pos (by rcases hq with h | h | h | h; exact .inl h; exact .inr (.inl h); exact .inr (.inr (.inl ⟨rfl, h⟩)); exact .inr (.inr (.inr h))), if_pos hq]
    · rw [if_neg (by rintro (h | h | h | h); exact hq (.inl h); exact hq (.inr (.inl h)); exact hq (.inr (.inr (.inl h.2))); exact hq (.inr (.inr (.inr h)))), if_neg hq, if_neg (by decide)]

theorem r25part_any (w : World) (gx : Nat) (old new : List By) (bef aft : Nat) (lo : Option Addr) (lc B0 : Nat) (l : List Pt) (HX : PaX w gx old new bef aft lo lc B0 l) (po : Option Addr) (n pc : Nat) (p : List By) (hpn : p.length = n) (hp47 : n <= 140737488351232) (hpc : n <= pc) (hp : IsB w po p) (a hv : Nat) (ha : a <= 140737488355328) (hhv : hv <= 524288) :
    Calls Tryd.prog 24 #[.pointer (some ⟨gx, 0, none⟩), .slice po n pc, .int .i64 (a : Int), .int .i64 (hv : Int)] w (PaP w bef aft l p a hv) := by
  by_cases h1 : n <= a
  · exact part_end w gx old new bef aft lo lc B0 l HX po n pc p hpn hp47 hpc a hv ha hhv h1 (partR_end hpn h1)
  · have h1' : a < n := by omega
    obtain ⟨B, off, rfl, _⟩ := hp.cell a (by omega)
    by_cases h2 : (p.getD a 0).toNat = 2
    · have hR := partR_lay (bef := bef) (aft := aft) (l := l) (hv := hv) hpn h1' h2
      by_cases h3 : n < a + 5
      · exact lay_short w gx old new bef aft lo lc B0 l HX B off n pc p hpn hp47 hpc hp a hv ha hhv h1' h2 h3 (by rw [hR, if_pos h3])
      · rw [if_neg h3] at hR
        by_cases h4 : num4 (p.drop (a + 1)) < 1
        · exact lay_none w gx old new bef aft lo lc B0 l HX B off n pc p hpn hp47 hpc hp a hv ha hhv h1' h2 (by omega) _ rfl h4 (by rw [hR, if_pos (.inl h4)])
        · by_cases h5 : aft < hv + num4 (p.drop (a + 1))
          · exact lay_much w gx old new bef aft lo lc B0 l HX B off n pc p hpn hp47 hpc hp a hv ha hhv h1' h2 (by omega) _ rfl (by omega) h5 (by rw [hR, if_pos (.inr (.inl h5))])
          · cases h6 : behB l true 0 with
            | false => exact lay_behind w gx old new bef aft lo lc B0 l HX B off n pc p hpn hp47 hpc hp a hv ha hhv h1' h2 (by omega) _ rfl (by omega) (by omega) h6 (by rw [hR, if_pos (.inr (.inr h6))])
            | true =>
              rw [if_neg (by rintro (h | h | h); exact h4 h; exact h5 h; rw [h6] at h; cases h)] at hR
              by_cases h7 : n < a + 5 + num4 (p.drop (a + 1))
              · exact lay_cut w gx old new bef aft lo lc B0 l HX B off n pc p hpn hp47 hpc hp a hv ha hhv h1' h2 (by omega) _ rfl (by omega) (by omega) h6 h7 (by rw [hR, if_pos h7])
              · exact lay_ok w gx old new bef aft lo lc B0 l HX B off n pc p hpn hp47 hpc hp a hv ha hhv h1' h2 (by omega) _ rfl (by omega) (by omega) h6 (by omega) (by rw [hR, if_neg h7])
    · by_cases h2' : (p.getD a 0).toNat = 1
      · have hR := partR_copy (bef := bef) (aft := aft) (l := l) (hv := hv) hpn h1' h2'
        by_cases h3 : n < a + 9
        · exact copy_short w gx old new bef aft lo lc B0 l HX B off n pc p hpn hp47 hpc hp a hv ha hhv h1' h2' h3 (by rw [hR, if_pos h3])
        · rw [if_neg h3] at hR
          by_cases h4 : num4 (p.drop (a + 5)) < 1
          · exact copy_none w gx old new bef aft lo lc B0 l HX B off n pc p hpn hp47 hpc hp a hv ha hhv h1' h2' (by omega) _ _ rfl rfl h4 (by rw [hR, if_pos (.inl h4)])
          · by_cases h5 : aft < hv + num4 (p.drop (a + 5))
            · exact copy_much w gx old new bef aft lo lc B0 l HX B off n pc p hpn hp47 hpc hp a hv ha hhv h1' h2' (by omega) _ _ rfl rfl (by omega) h5 (by rw [hR, if_pos (.inr (.inl h5))])
            · by_cases h6 : bef < num4 (p.drop (a + 1)) + num4 (p.drop (a + 5))
              · exact copy_beyond w gx old new bef aft lo lc B0 l HX B off n pc p hpn hp47 hpc hp a hv ha hhv h1' h2' (by omega) _ _ rfl rfl (by omega) (by omega) h6 (by rw [hR, if_pos (.inr (.inr (.inl h6)))])
              · cases h7 : behB l false (num4 (p.drop (a + 1))) with
                | false => exact copy_behind w gx old new bef aft lo lc B0 l HX B off n pc p hpn hp47 hpc hp a hv ha hhv h1' h2' (by omega) _ _ rfl rfl (by omega) (by omega) (by omega) h7 (by rw [hR, if_pos (.inr (.inr (.inr h7)))])
                | true => exact copy_ok w gx old new bef aft lo lc B0 l HX B off n pc p hpn hp47 hpc hp a hv ha hhv h1' h2' (by omega) _ _ rfl rfl (by omega) (by omega) (by omega) h7 (by rw [hR, if_neg (by rintro (h | h | h | h); exact h4 h; exact h5 h; exact h6 h; rw [h7] at h; cases h)])
      · exact part_kind w gx old new bef aft lo lc B0 l HX B off n pc p hpn hp47 hpc hp a hv ha hhv h1' _ rfl h2' h2 (partR_kind hpn h1' h2' h2)

/-- A part read ends within the patch. -/
theorem partR_nx {bef aft : Nat} {l : List Pt} {p : List By} {a hv nx : Nat} {y : Pt} (h : partR bef aft l p a hv = .ok (y, nx)) : nx <= p.length := by
  by_cases h1 : p.length <= a
  · rw [partR_end rfl h1] at h; cases h
  · by_cases h2 : (p.getD a 0).toNat = 2
    · rw [partR_lay rfl (by omega) h2] at h
      repeat' split at h
      all_goals first | (injection h with h; injection h with _ h; omega) | cases h
    · by_cases h3 : (p.getD a 0).toNat = 1
      · rw [partR_copy rfl (by omega) h3] at h
        repeat' split at h
        all_goals first | (injection h with h; injection h with _ h; omega) | cases h
      · rw [partR_kind rfl (by omega) h3 h2] at h; cases h

theorem el_parts : ElT 32 65 4 48 (.agg zPt.toArray) := ⟨Tryd.underlying32, by kernel_rfl, rfl, by omega⟩
/-- A row of one part. -/
theorem wpList_buildP {ops : Array Oper} {rest : List Oper} {o : Oper} {a : Act} {w : World} {Q : Exit -> Act -> World -> Prop} (hg : o.guard = none) (y0 : Operand) (ho : o.op = .buildSlice 32 1 #[(0, y0)])
    (v : List Value) (hv : v.length = 4) (e0 : a.eval y0 = .agg v.toArray)
    (h : wpList Tryd.prog ops Q rest (a.put o.dst (.slice (some ⟨w.heap.size, 0, none⟩) 1 1)) (w.alloc (.cells v.toArray 65))) : wpList Tryd.prog ops Q (o :: rest) a w := by
  obtain ⟨i0, hi, hz0, hz1, hz2⟩ := info_parts el_parts.info
  refine wpList_buildSlice hg 32 65 1 _ ho v.toArray i0 _ Tryd.underlying32 hi hz0 (by rw [hz1]; omega) (by rw [hz1]; omega) ?_ h
  have hy : ((#[(0, y0)] : Array (Nat × Operand)).map fun (i, x) => (i, a.eval x)).toList = ([Value.agg v.toArray].zipIdx 0).map fun x => (x.2, x.1) := by simp [e0]
  rw [hz1, hy]
  rw [Great.fill_whole (s := 4) (by decide) [Value.agg v.toArray] _ (fun x hx => by
    rw [List.mem_singleton.1 hx]
    simpa [Value.cells] using hv) (by simp)]
  simp [Value.cells]
/-- A part more behind the others. -/
theorem wpList_appP {ops : Array Oper} {rest : List Oper} {o : Oper} {a : Act} {w : World} {Q : Exit -> Act -> World -> Prop} (hgd : o.guard = none) (s y : Operand)
    (ho : o.op = .call { callee := .builtin .append, args := #[s, y], argTypes := #[32, 32] })
    (N : Nat) (a0 : World) (lo : Option Addr) (lc : Nat) (l : List Pt) (x : Pt) (v : List Value) (g0 : Nat) (hg0 : g0 = w.heap.size) (hs : a.eval s = .slice lo l.length lc) (hy : a.eval y = .slice (some ⟨g0, 0, none⟩) 1 1)
    (hown : PxM N w l lo lc) (hx : PtV N w x v) (hN : N <= w.heap.size) (hbel : Below N a0 w) (hm : l.length <= 524288)
    (h : ∀ lo' lc' w', PxM N w' (l ++ [x]) lo' lc' -> Below N a0 w' -> (∀ k, k < w.heap.size -> (∀ g, lo = some ⟨g, 0, none⟩ -> k ≠ g) -> w'.heap[k]? = w.heap[k]?) -> w.heap.size <= w'.heap.size -> wpList Tryd.prog ops Q rest (a.put o.dst (.slice lo' (l.length + 1) lc')) w') :
    wpList Tryd.prog ops Q (o :: rest) a (w.alloc (.cells v.toArray 65)) := by
  subst hg0
  obtain ⟨vss, h1, h2, h3⟩ := hown.vs
  have hv4 := hx.len
  obtain ⟨bo, bc, hve, hvo⟩ := hx.eq
  have hr := Row.at w 65 v _ _ rfl rfl
  refine wpList_plain hgd fun K hK => ?_
  obtain ⟨lo', lc', w', hrun, k2, k3, k4, k5⟩ := run_append_gen el_parts N a0 _ o.type lo l.length lc vss.flatten (h2.alloc _) (by simp; omega) (hbel.alloc hN (.cells v.toArray 65)) (some ⟨w.heap.size, 0, none⟩) 1 1 v (by rw [hv4])
    (.inr ⟨w.heap.size, 0, rfl, fun j u hu => by have := hr.cell j u hu; simpa using this⟩) (by rw [hve]; exact ptC_one _ _ _ _ _ _) (fun h => by cases h) (by unfold maxLen; omega) (by omega)
  unfold Oper.wp execOp
  simp only [ho, resolve, invoke, builtin, Sem.run_bind, Sem.run_pure, Result.andThen_ok, List.map_toArray, List.map_cons, List.map_nil, hs, hy, hrun]
  have k4' : w.heap.size <= w'.heap.size := by simp at k4; omega
  have k5' : ∀ k, k < w.heap.size -> (∀ g, lo = some ⟨g, 0, none⟩ -> k ≠ g) -> w'.heap[k]? = w.heap[k]? := fun k hk hne => by
    rw [k5 k (by simp; omega) hne]
    exact heap_alloc_old w _ hk
  have keep : ∀ (z : Pt) (u : List Value), PtV N w z u -> PtV N w' z u := fun z u hz => by
    obtain ⟨zo, zc, ez, hzo⟩ := hz.eq
    refine ⟨zo, zc, ez, own_keepL hzo.1 fun B eB => ?_, by omega⟩
    subst eB
    have hlt := (hzo.1.lt B rfl).2
    refine k5' B hlt fun g eg e => ?_
    subst eg
    subst e
    obtain ⟨c1, t1⟩ := owns_ty25 hzo.1 B rfl
    obtain ⟨c2, t2⟩ := owns_ty25 h2 B rfl
    rw [t1] at t2
    injection t2 with t2
    injection t2 with _ t2
    cases t2
  refine hK _ _ (h lo' lc' w' ⟨vss ++ [v], by simp [h1], ?_, ?_⟩ k3 k5' k4')
  · rw [List.length_append, List.length_singleton, List.flatten_append, List.flatten_cons, List.flatten_nil, List.append_nil]
    exact k2
  · intro i z u hi hu
    by_cases hil : i < l.length
    · rw [List.getElem?_append_left hil] at hi
      rw [List.getElem?_append_left (by omega)] at hu
      exact keep z u (h3 i z u hi hu)
    · have : i = l.length := by
        have := (List.getElem?_eq_some_iff.1 hi).1
        simp at this
        omega
      subst this
      simp at hi
      rw [<- h1] at hu
      simp at hu
      subst hi hu
      exact keep _ _ hx
end Go.Proofs.YtplpoehfdhkhmaaDoor


/-! The reference's patch: Read, what it needs. (Printed by tools/genrd25.py.) -/
namespace Go.Proofs.YtplpoehfdhkhmaaDoor
open Go.RowKit
set_option linter.unusedVariables false

/-- Both answers' blocks. -/
structure RS (w W : World) : Prop where
  r2 : Row W w.heap.size 34 zPx
  r3 : Row W (w.heap.size + 1) 37 [.int .i64 0, .int .i64 0]
  bel : Below w.heap.size w W
theorem RS.keep {w W W2 : World} (h : RS w W) (hb : Below W.heap.size W W2) : RS w W2 := ⟨h.r2.below hb h.r2.lt, h.r3.below hb h.r3.lt, h.bel.trans (hb.mono h.bel.size)⟩
theorem RS.but {w W W2 : World} {g : Nat} (h : RS w W) (hs : SameBut g W W2) (hg : w.heap.size + 2 <= g) : RS w W2 := ⟨h.r2.but hs (by omega), h.r3.but hs (by omega), hs.below h.bel (by omega)⟩
/-- While an error is told. -/
structure RE (w : World) (c : List Value) (gE : Nat) (l3 : Bool) (W : World) : Prop where
  r2 : Row W w.heap.size 34 zPx
  r3 : Row W (w.heap.size + 1) 37 (if l3 = true then c else [.int .i64 0, .int .i64 0])
  rE : Row W gE 37 c
  bel : Below w.heap.size w W
section
variable {w : World} {c : List Value} {gE : Nat} {l3 : Bool} {W W2 : World}
theorem RE.no (h : RE w c gE l3 W) (hl : l3 = false) : Row W (w.heap.size + 1) 37 [.int .i64 0, .int .i64 0] := by
  have := h.r3
  subst hl
  exact this
theorem RE.s2 (h : RE w c gE l3 W) (hg : w.heap.size + 2 <= gE) (hr : Row W2 w.heap.size 34 zPx) (hs : SameBut w.heap.size W W2) : RE w c gE l3 W2 :=
  ⟨hr, h.r3.but hs (by omega), h.rE.but hs (by omega), hs.below h.bel (Nat.le_refl _)⟩
theorem RE.s3 (h : RE w c gE l3 W) (hg : w.heap.size + 2 <= gE) (hr : Row W2 (w.heap.size + 1) 37 c) (hs : SameBut (w.heap.size + 1) W W2) : RE w c gE true W2 :=
  ⟨h.r2.but hs (by omega), hr, h.rE.but hs (by omega), hs.below h.bel (by omega)⟩
end
theorem RdP.err {w : World} {p : List By} {k a : Nat} {W : World} (h : readR p = .error (k, a)) (hb : Below w.heap.size w W) : RdP w p (.returned (.tuple #[.agg zPx.toArray, .agg #[.int .i64 (k : Int), .int .i64 (a : Int)]])) W := by
  unfold RdP
  rw [h]
  exact ⟨hb, rfl⟩
theorem RdP.ok {w : World} {p : List By} {x : PX} {W : World} {C : List Value} (h : readR p = .ok x) (hb : Below w.heap.size w W) (hv : PxV w.heap.size W x C) : RdP w p (.returned (.tuple #[.agg C.toArray, .agg #[.int .i64 0, .int .i64 0]])) W := by
  unfold RdP
  rw [h]
  exact ⟨hb, C, rfl, hv⟩
/-- Part by part: the patch in its block, what is read so far. -/
structure RL (w : World) (p : List By) (old new : List By) (bef aft G : Nat) (a hv : Nat) (l : List Pt) (lo : Option Addr) (lc : Nat) (W : World) : Prop where
  rs : RS w W
  row : Row W G 34 (pxC old new bef aft (.slice lo l.length lc))
  pm : PxM (G + 2) W l lo lc
  gg : w.heap.size + 2 <= G
  sz : G + 2 <= W.heap.size
  sum : (l.map Pt.n).sum = hv
  pts : ∀ y ∈ l, PtOk bef y /\ y.n <= aft
  le : hv <= aft
  at_ : a <= p.length
  read : ∃ k, aft <= hv + k /\ readL bef aft p k a hv l = readL bef aft p aft 77 0 []
section
variable {w : World} {p old new : List By} {bef aft G a hv : Nat} {l : List Pt} {lo : Option Addr} {lc : Nat} {W W2 : World}
theorem RL.keep (h : RL w p old new bef aft G a hv l lo lc W) (hb : Below W.heap.size W W2) : RL w p old new bef aft G a hv l lo lc W2 :=
  ⟨h.rs.keep hb, h.row.below hb h.row.lt, h.pm.keep hb, h.gg, Nat.le_trans h.sz hb.size, h.sum, h.pts, h.le, h.at_, h.read⟩
theorem RL.len (h : RL w p old new bef aft G a hv l lo lc W) : l.length <= aft := by
  have := len_le_sum (l := l) fun y hy => (h.pts y hy).1.pos
  have := h.sum
  have := h.le
  omega
theorem RL.done (h : RL w p old new bef aft G a hv l lo lc W) (hd : aft <= hv) : readL bef aft p aft 77 0 [] = .ok (l, a) := by
  obtain ⟨k, _, e⟩ := h.read
  rw [<- e]
  cases k with
  | zero => rfl
  | succ k => rw [readL, if_pos hd]
theorem RL.more (h : RL w p old new bef aft G a hv l lo lc W) (hd : hv < aft) : ∃ k, aft <= hv + (k + 1) /\ readL bef aft p aft 77 0 [] = (match partR bef aft l p a hv with | .error e => .error e | .ok (y, nx) => readL bef aft p k nx (hv + y.n) (l ++ [y])) := by
  obtain ⟨k, hk, e⟩ := h.read
  obtain ⟨m, rfl⟩ : ∃ m, k = m + 1 := ⟨k - 1, by omega⟩
  refine ⟨m, hk, ?_⟩
  rw [<- e, readL, if_neg (by omega)]
  rfl
theorem RL.pax (h : RL w p old new bef aft G a hv l lo lc W) (ho : old.length = 32) (hn : new.length = 32) (hb : bef <= 524288) (hf : aft <= 524288) : ∃ B0, PaX W G old new bef aft lo lc B0 l := by
  obtain ⟨B0, hB⟩ : ∃ B0, ∀ B, lo = some ⟨B, 0, none⟩ -> B = B0 := by
    cases lo with
    | none => exact ⟨0, fun B h => by cases h⟩
    | some ad => exact ⟨ad.block, fun B h => by injection h with h; rw [h]⟩
  refine ⟨B0, h.row, ho, hn, hb, hf, Nat.le_trans h.len hf, fun hl => ?_, fun i x hi => ?_⟩
  · obtain ⟨B, v, e, _, _⟩ := h.pm.at (List.getElem?_eq_getElem hl)
    rw [e, hB B e]
  · obtain ⟨B, v, e, hr, hv⟩ := h.pm.at hi
    obtain ⟨bo, bc, ev, _⟩ := hv.eq
    subst ev
    obtain rfl := hB B e
    have hp := h.pts x (List.mem_of_getElem? hi)
    exact ⟨⟨bo, _, bc, hr⟩, hp.1.frm, by have := hp.2; omega⟩
end
theorem PtV.le {N N' : Nat} {W : World} {y : Pt} {v : List Value} (h : PtV N W y v) (hN : N' <= N) : PtV N' W y v := by
  obtain ⟨bo, bc, e, ho⟩ := h.eq
  exact ⟨bo, bc, e, own_le ho hN⟩
theorem PtV.low {N g : Nat} {W W2 : World} {y : Pt} {v : List Value} (h : PtV N W y v) (hs : SameBut g W W2) (hg : g < N) : PtV N W2 y v := by
  obtain ⟨bo, bc, e, ho⟩ := h.eq
  exact ⟨bo, bc, e, ho.low hs hg⟩
theorem PxM.low {N g : Nat} {W W2 : World} {l : List Pt} {lo : Option Addr} {lc : Nat} (h : PxM N W l lo lc) (hs : SameBut g W W2) (hg : g < N) : PxM N W2 l lo lc := by
  obtain ⟨vss, h1, h2, h3⟩ := h.vs
  refine ⟨vss, h1, own_keepL h2 fun B eB => hs.block B fun e2 => ?_, fun i y v hi hv => (h3 i y v hi hv).low hs hg⟩
  subst eB
  have := (h2.lt B rfl).1
  omega
theorem PxM.le {N N' : Nat} {W : World} {l : List Pt} {lo : Option Addr} {lc : Nat} (h : PxM N W l lo lc) (hN : N' <= N) : PxM N' W l lo lc := by
  obtain ⟨vss, h1, h2, h3⟩ := h.vs
  exact ⟨vss, h1, own_leL h2 hN, fun i y v hi hv => (h3 i y v hi hv).le hN⟩
theorem PxM.lt {N : Nat} {W : World} {l : List Pt} {g lc : Nat} (h : PxM N W l (some ⟨g, 0, none⟩) lc) : g < W.heap.size := by
  obtain ⟨vss, h1, h2, h3⟩ := h.vs
  exact (h2.lt g rfl).2
/-- A part more is read. -/
theorem RL.push {w : World} {p old new : List By} {bef aft G a hv nx k : Nat} {l : List Pt} {y : Pt} {lo lo' : Option Addr} {lc lc' : Nat} {W W2 W3 : World} (h : RL w p old new bef aft G a hv l lo lc W) (ho : old.length = 32) (hn : new.length = 32)
    (hp : partR bef aft l p a hv = .ok (y, nx)) (hk : aft <= hv + (k + 1)) (hr : readL bef aft p aft 77 0 [] = readL bef aft p k nx (hv + y.n) (l ++ [y]))
    (hm : PxM (G + 2) W2 (l ++ [y]) lo' lc') (hbel : Below (G + 2) W W2) (hs : W3 = W2.setCell ⟨G, 66, none⟩ (.slice lo' (l.length + 1) lc')) (hz : W.heap.size <= W2.heap.size) : RL w p old new bef aft G nx (hv + y.n) (l ++ [y]) lo' lc' W3 := by
  subst hs
  have hok := partR_ok hp
  have hs2 := SameBut.setCell G 66 (.slice lo' (l.length + 1) lc') W2
  have hrow : Row W2 G 34 (pxC old new bef aft (.slice lo l.length lc)) := h.row.below hbel (by omega)
  have hg := h.gg
  have hset := hrow.set 66 (.slice lo' (l.length + 1) lc')
  have e66 : (pxC old new bef aft (.slice lo l.length lc)).set 66 (.slice lo' (l.length + 1) lc') = pxC old new bef aft (.slice lo' (l ++ [y]).length lc') := by
    unfold pxC
    rw [List.set_append_right _ _ (by simp [ho, hn])]
    simp [ho, hn]
  rw [e66] at hset
  refine ⟨RS.but ⟨h.rs.r2.below hbel (by omega), h.rs.r3.below hbel (by omega), h.rs.bel.trans (hbel.mono (by omega))⟩ hs2 hg, hset, hm.low hs2 (by omega), hg, by rw [hs2.size]; have := h.sz; omega, ?_, ?_, hok.2.1, partR_nx hp, k, ?_, hr.symm⟩
  · rw [List.map_append, List.sum_append, h.sum]; simp
  · intro z hz
    rcases List.mem_append.1 hz with hz | hz
    · exact h.pts z hz
    · rw [List.mem_singleton.1 hz]
      exact ⟨hok.1, by have := hok.2.1; omega⟩
  · have := hok.1.pos; omega

structure RD3 (W1 : World) (c : List Value) (gE : Nat) (L : Nat -> Bool) (x19 x20 : Value) (W : World) : Prop where
  x : RE W1 c gE (L 3) W
  p0 : L 0 = true -> x19 = .agg Tryd.zeroCells34
  p1 : L 1 = true -> x20 = .agg c.toArray
section
variable {W1 : World} {c : List Value} {gE : Nat} {L : Nat -> Bool} {x19 x20 : Value} {W W2 : World}
theorem RD3.s2 (h : RD3 W1 c gE L x19 x20 W) (hX : RE W1 c gE ((upd L 2) 3) W2) : RD3 W1 c gE (upd L 2) x19 x20 W2 :=
  ⟨hX, h.p0, h.p1⟩
theorem RD3.s3 (h : RD3 W1 c gE L x19 x20 W) (hX : RE W1 c gE ((upd L 3) 3) W2) : RD3 W1 c gE (upd L 3) x19 x20 W2 :=
  ⟨hX, h.p0, h.p1⟩
end
@[reducible] def IRD3 (W1 : World) (c : List Value) (gE : Nat) (y0 y1 y2 y3 y4 y5 y6 y7 y8 y9 y10 y11 y12 y13 y14 y15 y16 y17 y18 y21 y22 y23 y24 y25 y26 y27 y28 y29 y30 y31 y32 y33 y34 y35 y36 y37 y38 y39 y40 y41 y42 y43 y44 y45 y46 y47 y48 y49 y50 y51 y52 y53 y54 y55 y56 y57 : Value) : (Nat -> Bool) -> Act -> World -> Prop := fun L a W => ∃ x19 x20, a = ⟨#[y0, y1, y2, y3, y4, y5, y6, y7, y8, y9, y10, y11, y12, y13, y14, y15, y16, y17, y18, x19, x20, y21, y22, y23, y24, y25, y26, y27, y28, y29, y30, y31, y32, y33, y34, y35, y36, y37, y38, y39, y40, y41, y42, y43, y44, y45, y46, y47, y48, y49, y50, y51, y52, y53, y54, y55, y56, y57], []⟩ /\ RD3 W1 c gE L x19 x20 W
structure RD9 (W1 : World) (c : List Value) (gE : Nat) (L : Nat -> Bool) (x36 x37 : Value) (W : World) : Prop where
  x : RE W1 c gE (L 3) W
  p0 : L 0 = true -> x36 = .agg Tryd.zeroCells34
  p1 : L 1 = true -> x37 = .agg c.toArray
section
variable {W1 : World} {c : List Value} {gE : Nat} {L : Nat -> Bool} {x36 x37 : Value} {W W2 : World}
theorem RD9.s2 (h : RD9 W1 c gE L x36 x37 W) (hX : RE W1 c gE ((upd L 2) 3) W2) : RD9 W1 c gE (upd L 2) x36 x37 W2 :=
  ⟨hX, h.p0, h.p1⟩
theorem RD9.s3 (h : RD9 W1 c gE L x36 x37 W) (hX : RE W1 c gE ((upd L 3) 3) W2) : RD9 W1 c gE (upd L 3) x36 x37 W2 :=
  ⟨hX, h.p0, h.p1⟩
end
@[reducible] def IRD9 (W1 : World) (c : List Value) (gE : Nat) (y0 y1 y2 y3 y4 y5 y6 y7 y8 y9 y10 y11 y12 y13 y14 y15 y16 y17 y18 y19 y20 y21 y22 y23 y24 y25 y26 y27 y28 y29 y30 y31 y32 y33 y34 y35 y38 y39 y40 y41 y42 y43 y44 y45 y46 y47 y48 y49 y50 y51 y52 y53 y54 y55 y56 y57 : Value) : (Nat -> Bool) -> Act -> World -> Prop := fun L a W => ∃ x36 x37, a = ⟨#[y0, y1, y2, y3, y4, y5, y6, y7, y8, y9, y10, y11, y12, y13, y14, y15, y16, y17, y18, y19, y20, y21, y22, y23, y24, y25, y26, y27, y28, y29, y30, y31, y32, y33, y34, y35, x36, x37, y38, y39, y40, y41, y42, y43, y44, y45, y46, y47, y48, y49, y50, y51, y52, y53, y54, y55, y56, y57], []⟩ /\ RD9 W1 c gE L x36 x37 W
end Go.Proofs.YtplpoehfdhkhmaaDoor
