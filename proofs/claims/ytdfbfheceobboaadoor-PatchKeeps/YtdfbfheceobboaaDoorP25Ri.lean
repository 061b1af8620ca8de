
import Derived.Test.YtdfbfheceobboaaDoorP25Rh
/-! The code's patch: how many bytes lays have; what stands while a patch is taken apart. -/
namespace Go.Proofs.YtdfbfheceobboaaDoor
open Go.RowKit
set_option linter.unusedVariables false
set_option linter.unusedSimpArgs false
set_option maxRecDepth 100000

theorem results_rtt25 {fn : Func} {p u v : Tmp} {ty : TypeId} (h : fn.results = #[.cell p ty, .tmp u, .tmp v]) (tmps : Array Value) (w : World) (g t : Nat) (cs : List Value) (d : TypeDesc)
    (hp : tmps.getD p undef = .pointer (some ⟨g, 0, none⟩)) (hr : Row w g t cs) (hu : Tryd.prog.underlying ty = some d) (hd : d.isRow = true) (hi : (Tryd.prog.info? ty).map (·.size) = some cs.length) :
    (results fn tmps).run Tryd.prog w = .ok (.tuple #[.agg cs.toArray, tmps.getD u undef, tmps.getD v undef]) w := by
  have hl := run_loadVar_mid (P := Tryd.prog) w g 0 ty cs d (by have := hr.range 0 cs.length; simpa using this) hu hd hi
  rw [Array.getD_eq_getD_getElem?] at hp
  simp only [results, h]
  simp [Result.andThen, asAddr, hp, hl]
theorem laid_take_le (l : List Pt) (i : Nat) : laidN (l.take i) ≤ sumN l := by
  have h1 := laid_le (l.take i)
  have h2 := sumN_take_le l i
  unfold sumN at *
  omega
set_option maxHeartbeats 1000000 in
theorem claid_any (N : Nat) (w : World) (l : List Pt) (lo : Option Addr) (lc : Nat) (h : PaR N w l lo lc) (hs : sumN l ≤ 524288) (hl : l.length ≤ 524288) : Calls Tryd.prog 28 #[.slice lo l.length lc] w fun e w' => e = .returned (.int .i64 (laidN l : Int)) ∧ Below w.heap.size w w' := by
  have HH : Hid (PaR N w l lo lc) := h
  have HS : Hid (sumN l ≤ 524288) := hs
  clear h hs
  obtain ⟨nl, hnl⟩ : ∃ nl, nl = l.length := ⟨_, rfl⟩
  have HNL : Hid (nl = l.length ∧ nl ≤ 524288) := ⟨hnl, by omega⟩
  rw [← hnl]
  clear hnl hl
  go_enter Tryd.func28, Tryd.ntmps28
  go_wp2
  go_loopw [3, 10] (fun nv iv wr => ∃ i : Nat, i ≤ nl ∧ nv = .int .i64 (laidN (l.take i) : Int) ∧ iv = .int .i64 (i : Int) ∧ Hid (Below w.heap.size w wr)) (fun _ iv _ => nl - (intOf iv).toNat)
  case atStart => exact ⟨0, by omega, rfl, rfl, Below.refl _ _⟩
  case round =>
    obtain ⟨i, hi, rfl, rfl, HI⟩ := hrel
    by_cases hlt : i < nl
    · have x0 : (0 : Int) ≤ (i : Int) := by omega
      have x1 : (i : Int) < (nl : Int) := by omega
      have z1 : IntKind.i64.wrap ((i : Int) + 1) = (i : Int) + 1 := i64_in _ (by omega) (by have := HNL.out.2; omega)
      obtain ⟨y, hy⟩ : ∃ y, l[i]? = some y := ⟨_, List.getElem?_eq_getElem (by have := HNL.out.1; omega)⟩
      obtain ⟨B, v, rfl, hc, hv⟩ := (HH.out.keep HI.out).at hy
      have hT := laid_snoc (l.take i) y
      rw [← takeP_one hy] at hT
      have hle := laid_take_le l i
      have hle2 := laid_take_le l (i + 1)
      have hs := HS.out
      rcases hv.eq with ⟨hlay, rfl⟩ | ⟨hlay, B2, off2, c2, rfl, _⟩
      · rw [hlay] at hT
        have HT : Hid (laidN (l.take (i + 1)) = laidN (l.take i)) := by show _ = _; rw [hT]; simp
        have TA : ∀ W, Sem.run Tryd.prog (Instr.typeAssert (.iface 66 (.agg #[.int .i64 (y.frm : Int), .int .i64 (y.n : Int)])) 54 63 true) W = .ok (.tuple #[.agg #[.slice none 0 0], .bool false]) W := fun W => by kernel_rfl
        clear hT hle hle2 hs hy hv hlay
        generalize laidN (l.take i) = q at *
        go_wp2
        refine ⟨⟨i + 1, by omega, by rw [HT.out], by go_num, ?_⟩, by simp [intOf]; omega⟩
        repeat first | exact HI.out | refine Below.setCell ?_ (by have := HI.out.size; simp; omega) _ | refine Below.alloc ?_ (by have := HI.out.size; simp; omega) _
      · rw [hlay] at hT
        have HT : Hid (laidN (l.take (i + 1)) = laidN (l.take i) + y.n) := by show _ = _; rw [hT]; simp
        have TA : ∀ W, Sem.run Tryd.prog (Instr.typeAssert (.iface 63 (.agg #[.slice (some ⟨B2, off2, none⟩) y.n c2])) 54 63 true) W = .ok (.tuple #[.agg #[.slice (some ⟨B2, off2, none⟩) y.n c2], .bool true]) W := fun W => by kernel_rfl
        have z2 : IntKind.i64.wrap ((laidN (l.take i) : Int) + (y.n : Int)) = ((laidN (l.take i) + y.n : Nat) : Int) := by rw [i64_in _ (by omega) (by have := HT.out; omega)]; push_cast; rfl
        clear hT hle hle2 hs hy hv hlay
        generalize laidN (l.take i) = q at *
        go_wp2
        refine ⟨⟨i + 1, by omega, by rw [HT.out]; push_cast; rfl, by go_num, ?_⟩, by simp [intOf]; omega⟩
        repeat first | exact HI.out | refine Below.setCell ?_ (by have := HI.out.size; simp; omega) _ | refine Below.alloc ?_ (by have := HI.out.size; simp; omega) _
    · obtain rfl : i = nl := by omega
      have x1 : ¬ ((i : Nat) : Int) < (i : Int) := by omega
      have HT : Hid (l.take i = l) := List.take_of_length_le (by have := HNL.out.1; omega)
      go_wp2
      go_ret
      exact ⟨by rw [HT.out]; rfl, HI.out⟩
theorem par_ne {N : Nat} {W : World} {l : List Pt} {lo : Option Addr} {lc : Nat} (h : PaR N W l lo lc) {g t : Nat} {cs : List Value} (hr : Row W g t cs) (ht : t ≠ 54) : lo ≠ some ⟨g, 0, none⟩ := by
  intro e
  subst e
  obtain ⟨vs, h1, h2, h3⟩ := h.vs
  rcases h2.2 with ⟨e1, _⟩ | ⟨g2, c', cur, e1, _, hh, _⟩
  · cases e1
  · injection e1 with e1 _ _
    injection e1 with e1
    injection e1 with e1
    subst e1
    have h4 : W.heap[g]? = _ := hr
    rw [hh] at h4
    injection h4 with h4
    injection h4 with _ h4
    exact ht h4.symm
/-- Between two parts that are read. -/
structure TkW (w : World) (g5 g7 : Nat) (IC : List Value) (pv : Value) (n bef aft a hv : Nat) (l : List Pt) (av : Value) (lo : Option Addr) (lc : Nat) (W : World) : Prop where
  bel : Below w.heap.size w W
  res : Row W w.heap.size 47 zInf
  inf : Row W g5 47 IC
  rd : Row W g7 75 (rdC pv a bef (aft - hv) av)
  pr : PaR w.heap.size W l lo lc
  n5 : w.heap.size < g5
  n7 : g5 < g7
  ah : AhV l av
  hs : hv = sumN l
  le : hv ≤ aft
  an : a ≤ n
  ln : l.length ≤ hv
theorem TkW.keep {w : World} {g5 g7 : Nat} {IC : List Value} {pv : Value} {n bef aft a hv : Nat} {l : List Pt} {av : Value} {lo : Option Addr} {lc : Nat} {W W2 : World} (h : TkW w g5 g7 IC pv n bef aft a hv l av lo lc W) (hb : Below W.heap.size W W2) : TkW w g5 g7 IC pv n bef aft a hv l av lo lc W2 :=
  ⟨h.bel.trans (hb.mono h.bel.size), h.res.below hb h.res.lt, h.inf.below hb h.inf.lt, h.rd.below hb h.rd.lt, h.pr.keep hb, h.n5, h.n7, h.ah, h.hs, h.le, h.an, h.ln⟩
theorem ah_of {N : Nat} {W : World} {l : List Pt} {y : Pt} {v : Value} (h : PaV N W y v) (hy : y.lay = false → y.frm + y.n < 4000000000000) : AhV (l ++ [y]) v := by
  unfold AhV
  rw [List.getLast?_concat]
  rcases h.eq with ⟨h1, h2⟩ | ⟨h1, B, off, c, h2, _⟩
  · exact .inl ⟨h1, h2, hy h1⟩
  · exact .inr ⟨h1, _, _, h2⟩
/-- What the next part leaves of what stands. -/
theorem TkW.next {w : World} {g5 g7 : Nat} {IC : List Value} {pv : Value} {n bef aft a hv : Nat} {l : List Pt} {av : Value} {lo : Option Addr} {lc : Nat} {W W2 : World} (h : TkW w g5 g7 IC pv n bef aft a hv l av lo lc W) (hg : Grw w.heap.size (some ⟨g7, 0, none⟩) (some ⟨g7, 0, none⟩) W W2) : Below w.heap.size w W2 ∧ Row W2 w.heap.size 47 zInf ∧ Row W2 g5 47 IC ∧ PaR w.heap.size W2 l lo lc :=
  ⟨h.bel.trans hg.bel, hg.row h.res (fun e => by injection e with e; injection e with e; have := h.n5; have := h.n7; omega), hg.row h.inf (fun e => by injection e with e; injection e with e; have := h.n7; omega), h.pr.grw hg (fun q e e2 => by injection e2 with e2; injection e2 with e2; subst e2; exact par_ne h.pr h.rd (by decide) e)⟩
/-- And the part appended. -/
theorem TkW.more {w : World} {g5 g7 : Nat} {IC : List Value} {pv : Value} {n bef aft a hv : Nat} {l : List Pt} {av : Value} {lo lo' : Option Addr} {lc lc' : Nat} {W W2 W3 : World} {y : Pt} {v : Value} {nx : Nat} {vs : List Value} (h : TkW w g5 g7 IC pv n bef aft a hv l av lo lc W) (hg : Grw w.heap.size (some ⟨g7, 0, none⟩) (some ⟨g7, 0, none⟩) W W2) (hrd : Row W2 g7 75 (rdC pv nx bef (aft - (hv + y.n)) v)) (hv2 : PaV w.heap.size W2 y v) (hnx : nx ≤ n) (hle : hv + y.n ≤ aft) (hy : y.lay = false → y.frm + y.n < 4000000000000) (hpos : 1 ≤ y.n)
    (v1 : vs.length = l.length) (v3 : ∀ (i : Nat) (y : Pt) (v : Value), l[i]? = some y → vs[i]? = some v → PaV w.heap.size W2 y v) (ho : W3.ownsRow w.heap.size 54 1 (.slice lo' (l.length + 1) lc') (l.length + 1) (vs ++ [v])) (hg3 : Grw w.heap.size lo lo' W2 W3) : TkW w g5 g7 IC pv n bef aft nx (hv + y.n) (l ++ [y]) v lo' lc' W3 := by
  obtain ⟨b2, r2, i2, p2⟩ := h.next hg
  have hz := Nat.le_trans p2.sz hg3.size
  refine ⟨b2.trans hg3.bel, hg3.row r2 (par_ne p2 r2 (by decide)), hg3.row i2 (par_ne p2 i2 (by decide)), hg3.row hrd (par_ne p2 hrd (by decide)), PaR.snoc (W := W2) hz v1 (fun i z u hz hu => (v3 i z u hz hu).keep hg3.bel) ho (hv2.keep hg3.bel), h.n5, h.n7, ah_of hv2 hy, ?_, hle, hnx, ?_⟩
  · rw [sumN_app, sumN_cons, sumN_nil, h.hs]; omega
  · rw [List.length_append]; have := h.ln; simp; omega
end Go.Proofs.YtdfbfheceobboaaDoor
