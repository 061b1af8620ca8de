
import Derived.Test.YtplpoehfdhkhmaaDoorP25Ap
/-! The reference's patch: Joins. (Printed by tools/gen25.py.) -/
namespace Go.Proofs.YtplpoehfdhkhmaaDoor
open Go.RowKit
set_option linter.unusedVariables false

theorem results_rrr {fn : Func} {p u v : Tmp} {ty tz tv : TypeId} (h : fn.results = #[.cell p ty, .cell u tz, .cell v tv]) (tmps : Array Value) (w : World) (g t g2 t2 g3 t3 : Nat) (cs cs2 cs3 : List Value) (d d2 d3 : TypeDesc)
    (hp : tmps.getD p undef = .pointer (some ⟨g, 0, none⟩)) (hr : Row w g t cs) (hu : Tryd.prog.underlying ty = some d) (hd : d.isRow = true) (hi : (Tryd.prog.info? ty).map (·.size) = some cs.length)
    (hp2 : tmps.getD u undef = .pointer (some ⟨g2, 0, none⟩)) (hr2 : Row w g2 t2 cs2) (hu2 : Tryd.prog.underlying tz = some d2) (hd2 : d2.isRow = true) (hi2 : (Tryd.prog.info? tz).map (·.size) = some cs2.length)
    (hp3 : tmps.getD v undef = .pointer (some ⟨g3, 0, none⟩)) (hr3 : Row w g3 t3 cs3) (hu3 : Tryd.prog.underlying tv = some d3) (hd3 : d3.isRow = true) (hi3 : (Tryd.prog.info? tv).map (·.size) = some cs3.length) :
    (results fn tmps).run Tryd.prog w = .ok (.tuple #[.agg cs.toArray, .agg cs2.toArray, .agg cs3.toArray]) w := by
  have hl := run_loadVar_mid (P := Tryd.prog) w g 0 ty cs d (by have := hr.range 0 cs.length; simpa using this) hu hd hi
  have hl2 := run_loadVar_mid (P := Tryd.prog) w g2 0 tz cs2 d2 (by have := hr2.range 0 cs2.length; simpa using this) hu2 hd2 hi2
  have hl3 := run_loadVar_mid (P := Tryd.prog) w g3 0 tv cs3 d3 (by have := hr3.range 0 cs3.length; simpa using this) hu3 hd3 hi3
  rw [Array.getD_eq_getD_getElem?] at hp hp2 hp3
  simp only [results, h]
  simp [Sem.run_bind, Result.andThen, asAddr, hp, hp2, hp3, hl, hl2, hl3]
/-- May two patches be joined? -/
def joinsR (p q : List By) : Except (Nat × Nat) (PX × PX) :=
  match readR p with
  | .error (e, a) => .error (e, a)
  | .ok x =>
    match readR q with
    | .error (e, a) => .error (e, a)
    | .ok y => if y.old ≠ x.new ∨ y.before ≠ x.after then .error (11, 5) else .ok (x, y)
def JoP (w : World) (p q : List By) (e : Ending) (w' : World) : Prop :=
  Below w.heap.size w w' /\ match joinsR p q with
    | .error (k, a) => e = .returned (.tuple #[.agg zPx.toArray, .agg zPx.toArray, .agg #[.int .i64 (k : Int), .int .i64 (a : Int)]])
    | .ok (x, y) => ∃ C D, e = .returned (.tuple #[.agg C.toArray, .agg D.toArray, .agg #[.int .i64 0, .int .i64 0]]) /\ PxV w.heap.size w' x C /\ PxV w.heap.size w' y D
/-- The three answers' blocks, and an error's. -/
structure J3 (w W : World) : Prop where
  r4 : Row W w.heap.size 34 zPx
  r5 : Row W (w.heap.size + 1) 34 zPx
  r6 : Row W (w.heap.size + 2) 37 [.int .i64 0, .int .i64 0]
  bel : Below w.heap.size w W
theorem J3.keep {w W W2 : World} (h : J3 w W) (hb : Below W.heap.size W W2) : J3 w W2 :=
  ⟨h.r4.below hb h.r4.lt, h.r5.below hb h.r5.lt, h.r6.below hb h.r6.lt, h.bel.trans (hb.mono h.bel.size)⟩
theorem J3.but {w W W2 : World} {g : Nat} (h : J3 w W) (hs : SameBut g W W2) (hg : w.heap.size + 3 <= g) : J3 w W2 :=
  ⟨h.r4.but hs (by omega), h.r5.but hs (by omega), h.r6.but hs (by omega), hs.below h.bel (by omega)⟩
/-- While an error is told. -/
structure JE (w : World) (c : List Value) (g8 : Nat) (l5 : Bool) (W : World) : Prop where
  r4 : Row W w.heap.size 34 zPx
  r5 : Row W (w.heap.size + 1) 34 zPx
  r6 : Row W (w.heap.size + 2) 37 (if l5 = true then c else [.int .i64 0, .int .i64 0])
  r8 : Row W g8 37 c
  bel : Below w.heap.size w W
section
variable {w : World} {c : List Value} {g8 : Nat} {l5 : Bool} {W W2 : World}
theorem JE.no (h : JE w c g8 l5 W) (hl : l5 = false) : Row W (w.heap.size + 2) 37 [.int .i64 0, .int .i64 0] := by
  have := h.r6
  subst hl
  exact this
theorem JE.s3 (h : JE w c g8 l5 W) (hg : w.heap.size + 3 <= g8) (hr : Row W2 w.heap.size 34 zPx) (hs : SameBut w.heap.size W W2) : JE w c g8 l5 W2 :=
  ⟨hr, h.r5.but hs (by omega), h.r6.but hs (by omega), h.r8.but hs (by omega), hs.below h.bel (Nat.le_refl _)⟩
theorem JE.s4 (h : JE w c g8 l5 W) (hg : w.heap.size + 3 <= g8) (hr : Row W2 (w.heap.size + 1) 34 zPx) (hs : SameBut (w.heap.size + 1) W W2) : JE w c g8 l5 W2 :=
  ⟨h.r4.but hs (by omega), hr, h.r6.but hs (by omega), h.r8.but hs (by omega), hs.below h.bel (by omega)⟩
theorem JE.s5 (h : JE w c g8 l5 W) (hg : w.heap.size + 3 <= g8) (hr : Row W2 (w.heap.size + 2) 37 c) (hs : SameBut (w.heap.size + 2) W W2) : JE w c g8 true W2 :=
  ⟨h.r4.but hs (by omega), h.r5.but hs (by omega), hr, h.r8.but hs (by omega), hs.below h.bel (by omega)⟩
end

theorem Own.low {N g : Nat} {W W2 : World} {ao : Option Addr} {n c : Nat} {m : List By} (h : Own N W (.slice ao n c) m) (hs : SameBut g W W2) (hg : g < N) : Own N W2 (.slice ao n c) m := h.but hs fun e => by
  subst e
  have := h.lt.1
  omega
theorem PxV.low {N g : Nat} {W W2 : World} {x : PX} {C : List Value} (h : PxV N W x C) (hs : SameBut g W W2) (hg : g < N) : PxV N W2 x C := by
  obtain ⟨lo, lc, e, hm⟩ := h.eq
  obtain ⟨vss, h1, h2, h3⟩ := hm.vs
  refine ⟨h.ok, lo, lc, e, vss, h1, own_keepL h2 fun B eB => hs.block B fun e2 => ?_, fun i y v hi hv => ?_⟩
  · subst eB
    have := (h2.lt B rfl).1
    omega
  · obtain ⟨bo, bc, e3, ho⟩ := (h3 i y v hi hv).eq
    exact ⟨bo, bc, e3, ho.low hs hg⟩
theorem own_leL {N N' e size : Nat} {w : World} {v : Value} {n : Nat} {xs : List Value} (h : w.ownsRow N e size v n xs) (hN : N' <= N) : w.ownsRow N' e size v n xs := by
  refine ⟨h.1, ?_⟩
  rcases h.2 with h0 | ⟨g, c, cur, e1, hg, r⟩
  · exact .inl h0
  · exact .inr ⟨g, c, cur, e1, Nat.le_trans hN hg, r⟩
theorem PxV.le {N N' : Nat} {W : World} {x : PX} {C : List Value} (h : PxV N W x C) (hN : N' <= N) : PxV N' W x C := by
  obtain ⟨lo, lc, e, hm⟩ := h.eq
  obtain ⟨vss, h1, h2, h3⟩ := hm.vs
  refine ⟨h.ok, lo, lc, e, vss, h1, own_leL h2 hN, fun i y v hi hv => ?_⟩
  obtain ⟨bo, bc, e3, ho⟩ := (h3 i y v hi hv).eq
  exact ⟨bo, bc, e3, own_le ho hN⟩
/-- While both are told. -/
structure JK (w : World) (x y : PX) (C D : List Value) (G G9 : Nat) (l3 l4 : Bool) (W : World) : Prop where
  r4 : Row W w.heap.size 34 (if l3 = true then C else zPx)
  r5 : Row W (w.heap.size + 1) 34 (if l4 = true then D else zPx)
  r6 : Row W (w.heap.size + 2) 37 [.int .i64 0, .int .i64 0]
  rx : Row W G 34 C
  ry : Row W G9 34 D
  vx : PxV (w.heap.size + 3) W x C
  vy : PxV (w.heap.size + 3) W y D
  bel : Below w.heap.size w W
section
variable {w : World} {x y : PX} {C D : List Value} {G G9 : Nat} {l3 l4 : Bool} {W W2 : World}
theorem JK.n3 (h : JK w x y C D G G9 l3 l4 W) (hl : l3 = false) : Row W w.heap.size 34 zPx := by
  have := h.r4
  subst hl
  exact this
theorem JK.n4 (h : JK w x y C D G G9 l3 l4 W) (hl : l4 = false) : Row W (w.heap.size + 1) 34 zPx := by
  have := h.r5
  subst hl
  exact this
theorem JK.s3 (h : JK w x y C D G G9 l3 l4 W) (hg : w.heap.size + 3 <= G) (hg9 : w.heap.size + 3 <= G9) (hr : Row W2 w.heap.size 34 C) (hs : SameBut w.heap.size W W2) : JK w x y C D G G9 true l4 W2 :=
  ⟨hr, h.r5.but hs (by omega), h.r6.but hs (by omega), h.rx.but hs (by omega), h.ry.but hs (by omega), h.vx.low hs (by omega), h.vy.low hs (by omega), hs.below h.bel (Nat.le_refl _)⟩
theorem JK.s4 (h : JK w x y C D G G9 l3 l4 W) (hg : w.heap.size + 3 <= G) (hg9 : w.heap.size + 3 <= G9) (hr : Row W2 (w.heap.size + 1) 34 D) (hs : SameBut (w.heap.size + 1) W W2) : JK w x y C D G G9 l3 true W2 :=
  ⟨h.r4.but hs (by omega), hr, h.r6.but hs (by omega), h.rx.but hs (by omega), h.ry.but hs (by omega), h.vx.low hs (by omega), h.vy.low hs (by omega), hs.below h.bel (by omega)⟩
theorem JK.s5 (h : JK w x y C D G G9 l3 l4 W) (hg : w.heap.size + 3 <= G) (hg9 : w.heap.size + 3 <= G9) (hr : Row W2 (w.heap.size + 2) 37 [.int .i64 0, .int .i64 0]) (hs : SameBut (w.heap.size + 2) W W2) : JK w x y C D G G9 l3 l4 W2 :=
  ⟨h.r4.but hs (by omega), h.r5.but hs (by omega), hr, h.rx.but hs (by omega), h.ry.but hs (by omega), h.vx.low hs (by omega), h.vy.low hs (by omega), hs.below h.bel (by omega)⟩
end

structure JO3 (W1 : World) (c : List Value) (g8 : Nat) (L : Nat -> Bool) (x18 x19 x20 : Value) (W : World) : Prop where
  x : JE W1 c g8 (L 5) W
  p0 : L 0 = true -> x18 = .agg Tryd.zeroCells34
  p1 : L 1 = true -> x19 = .agg Tryd.zeroCells34
  p2 : L 2 = true -> x20 = .agg c.toArray
section
variable {W1 : World} {c : List Value} {g8 : Nat} {L : Nat -> Bool} {x18 x19 x20 : Value} {W W2 : World}
theorem JO3.s3 (h : JO3 W1 c g8 L x18 x19 x20 W) (hX : JE W1 c g8 ((upd L 3) 5) W2) : JO3 W1 c g8 (upd L 3) x18 x19 x20 W2 :=
  ⟨hX, h.p0, h.p1, h.p2⟩
theorem JO3.s4 (h : JO3 W1 c g8 L x18 x19 x20 W) (hX : JE W1 c g8 ((upd L 4) 5) W2) : JO3 W1 c g8 (upd L 4) x18 x19 x20 W2 :=
  ⟨hX, h.p0, h.p1, h.p2⟩
theorem JO3.s5 (h : JO3 W1 c g8 L x18 x19 x20 W) (hX : JE W1 c g8 ((upd L 5) 5) W2) : JO3 W1 c g8 (upd L 5) x18 x19 x20 W2 :=
  ⟨hX, h.p0, h.p1, h.p2⟩
end
@[reducible] def IJO3 (W1 : World) (c : List Value) (g8 : Nat) (y0 y1 y2 y3 y4 y5 y6 y7 y8 y9 y10 y11 y12 y13 y14 y15 y16 y17 y21 y22 y23 y24 y25 y26 y27 y28 y29 y30 y31 y32 y33 y34 y35 y36 y37 y38 y39 y40 y41 y42 y43 y44 y45 y46 y47 y48 y49 : Value) : (Nat -> Bool) -> Act -> World -> Prop := fun L a W => ∃ x18 x19 x20, a = ⟨#[y0, y1, y2, y3, y4, y5, y6, y7, y8, y9, y10, y11, y12, y13, y14, y15, y16, y17, x18, x19, x20, y21, y22, y23, y24, y25, y26, y27, y28, y29, y30, y31, y32, y33, y34, y35, y36, y37, y38, y39, y40, y41, y42, y43, y44, y45, y46, y47, y48, y49], []⟩ /\ JO3 W1 c g8 L x18 x19 x20 W
structure JO6 (W1 : World) (c : List Value) (g8 : Nat) (L : Nat -> Bool) (x29 x30 x31 : Value) (W : World) : Prop where
  x : JE W1 c g8 (L 5) W
  p0 : L 0 = true -> x29 = .agg Tryd.zeroCells34
  p1 : L 1 = true -> x30 = .agg Tryd.zeroCells34
  p2 : L 2 = true -> x31 = .agg c.toArray
section
variable {W1 : World} {c : List Value} {g8 : Nat} {L : Nat -> Bool} {x29 x30 x31 : Value} {W W2 : World}
theorem JO6.s3 (h : JO6 W1 c g8 L x29 x30 x31 W) (hX : JE W1 c g8 ((upd L 3) 5) W2) : JO6 W1 c g8 (upd L 3) x29 x30 x31 W2 :=
  ⟨hX, h.p0, h.p1, h.p2⟩
theorem JO6.s4 (h : JO6 W1 c g8 L x29 x30 x31 W) (hX : JE W1 c g8 ((upd L 4) 5) W2) : JO6 W1 c g8 (upd L 4) x29 x30 x31 W2 :=
  ⟨hX, h.p0, h.p1, h.p2⟩
theorem JO6.s5 (h : JO6 W1 c g8 L x29 x30 x31 W) (hX : JE W1 c g8 ((upd L 5) 5) W2) : JO6 W1 c g8 (upd L 5) x29 x30 x31 W2 :=
  ⟨hX, h.p0, h.p1, h.p2⟩
end
@[reducible] def IJO6 (W1 : World) (c : List Value) (g8 : Nat) (y0 y1 y2 y3 y4 y5 y6 y7 y8 y9 y10 y11 y12 y13 y14 y15 y16 y17 y18 y19 y20 y21 y22 y23 y24 y25 y26 y27 y28 y32 y33 y34 y35 y36 y37 y38 y39 y40 y41 y42 y43 y44 y45 y46 y47 y48 y49 : Value) : (Nat -> Bool) -> Act -> World -> Prop := fun L a W => ∃ x29 x30 x31, a = ⟨#[y0, y1, y2, y3, y4, y5, y6, y7, y8, y9, y10, y11, y12, y13, y14, y15, y16, y17, y18, y19, y20, y21, y22, y23, y24, y25, y26, y27, y28, x29, x30, x31, y32, y33, y34, y35, y36, y37, y38, y39, y40, y41, y42, y43, y44, y45, y46, y47, y48, y49], []⟩ /\ JO6 W1 c g8 L x29 x30 x31 W
structure JO9 (W1 : World) (x y : PX) (C E : List Value) (G G9 : Nat) (L : Nat -> Bool) (x47 x48 x49 : Value) (W : World) : Prop where
  x : JK W1 x y C E G G9 (L 3) (L 4) W
  p0 : L 0 = true -> x47 = .agg C.toArray
  p1 : L 1 = true -> x48 = .agg E.toArray
  p2 : L 2 = true -> x49 = .agg #[.int .i64 0, .int .i64 0]
section
variable {W1 : World} {x y : PX} {C E : List Value} {G G9 : Nat} {L : Nat -> Bool} {x47 x48 x49 : Value} {W W2 : World}
theorem JO9.s3 (h : JO9 W1 x y C E G G9 L x47 x48 x49 W) (hX : JK W1 x y C E G G9 ((upd L 3) 3) ((upd L 3) 4) W2) : JO9 W1 x y C E G G9 (upd L 3) x47 x48 x49 W2 :=
  ⟨hX, h.p0, h.p1, h.p2⟩
theorem JO9.s4 (h : JO9 W1 x y C E G G9 L x47 x48 x49 W) (hX : JK W1 x y C E G G9 ((upd L 4) 3) ((upd L 4) 4) W2) : JO9 W1 x y C E G G9 (upd L 4) x47 x48 x49 W2 :=
  ⟨hX, h.p0, h.p1, h.p2⟩
theorem JO9.s5 (h : JO9 W1 x y C E G G9 L x47 x48 x49 W) (hX : JK W1 x y C E G G9 ((upd L 5) 3) ((upd L 5) 4) W2) : JO9 W1 x y C E G G9 (upd L 5) x47 x48 x49 W2 :=
  ⟨hX, h.p0, h.p1, h.p2⟩
end
@[reducible] def IJO9 (W1 : World) (x y : PX) (C E : List Value) (G G9 : Nat) (y0 y1 y2 y3 y4 y5 y6 y7 y8 y9 y10 y11 y12 y13 y14 y15 y16 y17 y18 y19 y20 y21 y22 y23 y24 y25 y26 y27 y28 y29 y30 y31 y32 y33 y34 y35 y36 y37 y38 y39 y40 y41 y42 y43 y44 y45 y46 : Value) : (Nat -> Bool) -> Act -> World -> Prop := fun L a W => ∃ x47 x48 x49, a = ⟨#[y0, y1, y2, y3, y4, y5, y6, y7, y8, y9, y10, y11, y12, y13, y14, y15, y16, y17, y18, y19, y20, y21, y22, y23, y24, y25, y26, y27, y28, y29, y30, y31, y32, y33, y34, y35, y36, y37, y38, y39, y40, y41, y42, y43, y44, y45, y46, x47, x48, x49], []⟩ /\ JO9 W1 x y C E G G9 L x47 x48 x49 W
set_option maxHeartbeats 4000000 in
set_option maxRecDepth 100000 in
theorem r25Joins_any (RD : RdC) (w : World) (po : Option Addr) (pn pc : Nat) (p : List By) (hpn : p.length = pn) (hp47 : pn <= 140737488351232) (hpc : pn <= pc) (hp : IsB w po p)
    (qo : Option Addr) (qn qc : Nat) (q : List By) (hqn : q.length = qn) (hq47 : qn <= 140737488351232) (hqc : qn <= qc) (hq : IsB w qo q) :
    Calls Tryd.prog 20 #[.slice po pn pc, .slice qo qn qc] w (JoP w p q) := by
  obtain ⟨w1, hw1⟩ : ∃ w1, w1 = ((w.alloc (.cells zPx.toArray 34)).alloc (.cells zPx.toArray 34)).alloc (.cells #[.int .i64 0, .int .i64 0] 37) := ⟨_, rfl⟩
  have J1 : Hid (J3 w w1) := by
    show J3 w w1
    rw [hw1]
    exact ⟨((Row.at w _ _ _ _ rfl rfl).alloc _).alloc _, (Row.at _ _ _ _ _ (by simp) rfl).alloc _, Row.at _ _ _ _ _ (by simp) rfl, (((Below.refl _ _).alloc (Nat.le_refl _) _).alloc (by simp) _).alloc (by simp; omega) _⟩
  have hz1 : w1.heap.size = w.heap.size + 3 := by rw [hw1]; simp
  have RD1 := RD w1 po pn pc p hpn hp47 hpc (hp.below J1.out.bel (Nat.le_refl _))
  rw [hw1] at RD1
  have HQ : Hid (∀ W, Below w.heap.size w W -> Calls Tryd.prog 11 #[.slice qo qn qc] W (RdP W q)) := fun W h => RD W qo qn qc q hqn hq47 hqc (hq.below h (Nat.le_refl _))
  have HZ1 : Hid (w1.heap.size = w.heap.size + 3) := hz1
  clear hp hq hpn hqn hz1 RD
  go_enter Tryd.func20, Tryd.ntmps20
  go_wp2_with fail
  refine RD1.mono ?_
  rw [<- hw1]
  clear RD1 hw1
  rintro e w2 ⟨hb2, hm⟩
  have J2 : Hid (J3 w w2) := J1.out.keep hb2
  have hG2 : Hid (w.heap.size + 3 <= w2.heap.size) := by show _ <= _; have := hb2.size; have := HZ1.out; omega
  have AP : Hid (∀ k a, joinsR p q = .error (k, a) -> ∀ W, Below w.heap.size w W -> JoP w p q (.returned (.tuple #[.agg zPx.toArray, .agg zPx.toArray, .agg #[.int .i64 (k : Int), .int .i64 (a : Int)]])) W) := fun k a h W hbW => by
    unfold JoP
    rw [h]
    exact ⟨hbW, rfl⟩
  cases hrd : readR p with
  | error ka =>
    obtain ⟨k, a⟩ := ka
    rw [hrd] at hm
    have hm : e = .returned (ansV zPx k a) := hm
    subst hm
    have hk := (readR_wrong hrd).1
    have HAP : Hid (joinsR p q = .error (k, a)) := by show _ = _; unfold joinsR; rw [hrd]
    have kne : (((k : Nat) : Int) == 0) = false := by rw [beq_eq_false_iff_ne]; omega
    obtain ⟨ZP, hZP⟩ : ∃ ZP : Array Value, ZP = zPx.toArray := ⟨_, rfl⟩
    have HZP : Hid (ZP = zPx.toArray) := hZP
    unfold ansV
    rw [<- hZP]
    dsimp only
    clear hrd hZP
    obtain ⟨G, hG⟩ : ∃ G, G = w2.heap.size := ⟨_, rfl⟩
    have Z7 : Hid (Row ((w2.alloc (.cells zPx.toArray 34)).alloc (.cells #[.int .i64 0, .int .i64 0] 37)) G 34 zPx) := (Row.at w2 _ _ _ _ hG rfl).alloc _
    have Z8 : Hid (Row ((w2.alloc (.cells zPx.toArray 34)).alloc (.cells #[.int .i64 0, .int .i64 0] 37)) (G + 1) 37 [.int .i64 0, .int .i64 0]) := Row.at _ _ _ _ _ (by rw [hG]; simp) rfl
    have Q6 : Hid (J3 w ((w2.alloc (.cells zPx.toArray 34)).alloc (.cells #[.int .i64 0, .int .i64 0] 37))) := J2.out.keep (((Below.refl _ _).alloc (Nat.le_refl _) _).alloc (by simp) _)
    have HG : Hid (G = w2.heap.size) := hG
    have hGl : w.heap.size + 3 <= G := by have := hG2.out; omega
    clear hG hb2 hG2 J2 J1 HQ
    go_wp2_with (first
      | (have hz := Z7; clear hz; rw [<- HG.out]; refine wpList_store_Row rfl 34 (.tmp 7) (.tmp 13) rfl G 34 0 zPx zPx Z7.out (Nat.le_refl _) rfl (congrArg Value.agg HZP.out) (by kernel_rfl) zPx_one ?_; intro w3 hr3 hs3; have h7 : Hid (Row w3 (G + 1) 37 [.int .i64 0, .int .i64 0] /\ J3 w w3) := ⟨Z8.out.but hs3 (by omega), Q6.out.but hs3 hGl⟩; clear hr3 hs3 Z7 Z8 Q6)
      | (have hz := h7; clear hz; refine wpList_store_Row rfl 37 (.tmp 8) (.tmp 14) rfl (G + 1) 37 0 [.int .i64 0, .int .i64 0] [.int .i64 (k : Int), .int .i64 (a : Int)] h7.out.1 (Nat.le_refl _) rfl rfl (by kernel_rfl) (wr2_one _ _) ?_; intro w4 hr4 hs4; have h8 : Hid (Row w4 (G + 1) 37 [.int .i64 (k : Int), .int .i64 (a : Int)] /\ J3 w w4) := ⟨row_whole hr4 (Nat.le_refl _), h7.out.2.but hs4 (by omega)⟩; have c0 := h8.out.1.cell 0 _ rfl; clear hr4 hs4 h7))
    have M3 : Hid (JE w [.int .i64 (k : Int), .int .i64 (a : Int)] (G + 1) false w4.drew) := ⟨h8.out.2.r4, h8.out.2.r5, h8.out.2.r6, h8.out.1, h8.out.2.bel.drew⟩
    clear c0 h8
    refine wp_region_inv (IJO3 w [.int .i64 (k : Int), .int .i64 (a : Int)] (G + 1) _ _ _ _ _ _ _ _ _ _ _ _ _ _ _ _ _ _ _ _ _ _ _ _ _ _ _ _ _ _ _ _ _ _ _ _ _ _ _ _ _ _ _ _ _ _ _) (by kernel_rfl) (by kernel_rfl) ⟨_, _, _, rfl, ⟨M3.out, fun k => (by cases k), fun k => (by cases k), fun k => (by cases k)⟩⟩ ?_ ?_
    · refine .cons ?_ (.cons ?_ (.cons ?_ (.cons ?_ (.cons ?_ (.cons ?_ .nil)))))
      all_goals (rintro L _ W ⟨x18, x19, x20, rfl, hI⟩ hL hd K hK)
      · rw [if_pos (by rfl)]
        go_simp
        exact hK.out _ _ ⟨_, _, _, rfl, { hI with p0 := fun _ => rfl }⟩
      · rw [if_pos (by rfl)]
        go_simp
        exact hK.out _ _ ⟨_, _, _, rfl, { hI with p1 := fun _ => rfl }⟩
      · refine step_load_Row rfl 37 _ rfl (G + 1) 37 [.int .i64 (k : Int), .int .i64 (a : Int)] hI.x.r8 rfl _ Tryd.underlying37 rfl (by kernel_rfl) ?_
        exact hK.out _ _ ⟨_, _, _, rfl, { hI with p2 := fun _ => rfl }⟩
      · obtain rfl := hI.p0 (hd 0 (by decide))
        refine step_store_Row rfl 34 _ _ rfl (w.heap.size) 34 zPx zPx hI.x.r4 rfl rfl rfl (by kernel_rfl) zPx_one ?_
        intro W2 hr2 hs2
        have hX := hI.x.s3 (by omega) hr2 hs2
        exact hK.out _ _ ⟨_, _, _, rfl, { hI with x := hX }⟩
      · obtain rfl := hI.p1 (hd 1 (by decide))
        refine step_store_Row rfl 34 _ _ rfl (w.heap.size + 1) 34 zPx zPx hI.x.r5 rfl rfl rfl (by kernel_rfl) zPx_one ?_
        intro W2 hr2 hs2
        have hX := hI.x.s4 (by omega) hr2 hs2
        exact hK.out _ _ ⟨_, _, _, rfl, { hI with x := hX }⟩
      · obtain rfl := hI.p2 (hd 2 (by decide))
        refine step_store_Row rfl 37 _ _ rfl (w.heap.size + 2) 37 [.int .i64 0, .int .i64 0] [.int .i64 (k : Int), .int .i64 (a : Int)] (hI.x.no hL) rfl rfl rfl (by kernel_rfl) (wr2_one _ _) ?_
        intro W2 hr2 hs2
        have hX := hI.x.s5 (by omega) hr2 hs2
        exact hK.out _ _ ⟨_, _, _, rfl, { hI with x := hX }⟩
    · rintro L _ W hall ⟨x18, x19, x20, rfl, hI⟩
      obtain rfl := hI.p0 (hall 0 (by decide))
      obtain rfl := hI.p1 (hall 1 (by decide))
      obtain rfl := hI.p2 (hall 2 (by decide))
      have hXe := hI.x
      rw [hall 5 (by decide)] at hXe
      clear hI hall
      try dsimp only
      have hr := hXe.r6
      rw [if_pos rfl] at hr
      have HE : Hid (Row W w.heap.size 34 zPx /\ Row W (w.heap.size + 1) 34 zPx /\ Below w.heap.size w W) := ⟨hXe.r4, hXe.r5, hXe.bel⟩
      clear hXe
      go_wp2
      refine bodyPost_ret_by (results_rrr Tryd.results20 _ W w.heap.size 34 (w.heap.size + 1) 34 (w.heap.size + 2) 37 _ _ _ _ _ _ rfl HE.out.1 Tryd.underlying34 rfl (by kernel_rfl) rfl HE.out.2.1 Tryd.underlying34 rfl (by kernel_rfl) rfl hr Tryd.underlying37 rfl (by kernel_rfl)) rfl ?_
      exact AP.out k a HAP.out _ HE.out.2.2
  | ok x =>
    rw [hrd] at hm
    obtain ⟨C, he, hpx⟩ := hm
    subst he
    have lC := hpx.len
    obtain ⟨lo, lc, hC, _⟩ := hpx.eq
    have oC : Hid (∀ v ∈ C, v.oneCell' = true) := by rw [hC]; exact pxC_one _ _ _ _ _ _ _
    have hok := hpx.ok
    have HC : Hid (C = pxC x.old x.new x.before x.after (.slice lo x.l.length lc)) := hC
    clear hC
    have HVX : Hid (PxV (w.heap.size + 3) w2 x C) := hpx.le (by rw [HZ1.out]; exact Nat.le_refl _)
    obtain ⟨G, hG⟩ : ∃ G, G = w2.heap.size := ⟨_, rfl⟩
    have Z7 : Hid (Row ((w2.alloc (.cells zPx.toArray 34)).alloc (.cells #[.int .i64 0, .int .i64 0] 37)) G 34 zPx) := (Row.at w2 _ _ _ _ hG rfl).alloc _
    have Z8 : Hid (Row ((w2.alloc (.cells zPx.toArray 34)).alloc (.cells #[.int .i64 0, .int .i64 0] 37)) (G + 1) 37 [.int .i64 0, .int .i64 0]) := Row.at _ _ _ _ _ (by rw [hG]; simp) rfl
    have b3 : Below w2.heap.size w2 ((w2.alloc (.cells zPx.toArray 34)).alloc (.cells #[.int .i64 0, .int .i64 0] 37)) := ((Below.refl _ _).alloc (Nat.le_refl _) _).alloc (by simp) _
    have HST : Hid (∀ w3 w4, SameBut G ((w2.alloc (.cells zPx.toArray 34)).alloc (.cells #[.int .i64 0, .int .i64 0] 37)) w3 -> SameBut (G + 1) w3 w4 -> Row w3 G 34 C -> Row w4 G 34 C /\ J3 w w4 /\ PxV (w.heap.size + 3) w4 x C /\ Below w2.heap.size w2 w4) := fun w3 w4 h3 h4 hr3 => by
      have hb4 : Below w2.heap.size w2 w4 := h4.below (h3.below b3 (by omega)) (by omega)
      exact ⟨hr3.but h4 (by omega), J2.out.keep hb4, HVX.out.keep hb4, hb4⟩
    have HG : Hid (G = w2.heap.size) := hG
    have hGl : w.heap.size + 3 <= G := by have := hG2.out; omega
    unfold ansV
    dsimp only
    clear hG hb2 hG2 b3 hpx J1
    go_wp2_with (first
      | (have hz := Z7; clear hz; rw [<- HG.out]; refine wpList_store_Row rfl 34 (.tmp 7) (.tmp 13) rfl G 34 0 zPx C Z7.out (by rw [lC]; exact Nat.le_refl _) rfl rfl (by rw [lC]; kernel_rfl) oC.out ?_; intro w3 hr3 hs3; have h7 : Hid (Row w3 (G + 1) 37 [.int .i64 0, .int .i64 0] /\ Row w3 G 34 C /\ SameBut G ((w2.alloc (.cells zPx.toArray 34)).alloc (.cells #[.int .i64 0, .int .i64 0] 37)) w3) := ⟨Z8.out.but hs3 (by omega), row_whole hr3 (by rw [lC]; exact Nat.le_refl _), hs3⟩; clear hr3 hs3 Z7 Z8)
      | (have hz := h7; clear hz; refine wpList_store_Row rfl 37 (.tmp 8) (.tmp 14) rfl (G + 1) 37 0 [.int .i64 0, .int .i64 0] [.int .i64 0, .int .i64 0] h7.out.1 (Nat.le_refl _) rfl rfl (by kernel_rfl) (wr2_one _ _) ?_; intro w4 hr4 hs4; have h8 : Hid _ := HST.out _ _ h7.out.2.2 hs4 h7.out.2.1; have R8 : Hid (Row w4 (G + 1) 37 [.int .i64 0, .int .i64 0]) := row_whole hr4 (Nat.le_refl _); have c0 := R8.out.cell 0 _ rfl; clear hr4 hs4 h7))
    have HXK : Hid (∀ W, Below w2.heap.size w2 W -> PxV (w.heap.size + 3) W x C) := fun W hW => HVX.out.keep hW
    clear c0 HST HVX J2
    refine (HQ.out _ h8.out.2.1.bel).mono ?_
    rintro e w5 ⟨hb5, hm⟩
    have hG9 : w.heap.size + 3 <= w5.heap.size /\ G + 2 <= w5.heap.size := by
      have h1 := R8.out.lt
      have h2 := hb5.size
      omega
    obtain ⟨G9, hE9⟩ : ∃ G9, G9 = w5.heap.size := ⟨_, rfl⟩
    have HG9 : Hid (G9 = w5.heap.size) := hE9
    have g91 : w.heap.size + 3 <= G9 := by omega
    have g92 : G + 2 <= G9 := by omega
    have J5 : Hid (J3 w w5 /\ Row w5 G 34 C /\ Row w5 (G + 1) 37 [.int .i64 0, .int .i64 0] /\ PxV (w.heap.size + 3) w5 x C) := ⟨h8.out.2.1.keep hb5, h8.out.1.below hb5 h8.out.1.lt, R8.out.below hb5 R8.out.lt, h8.out.2.2.1.keep hb5⟩
    have B25 : Hid (Below w2.heap.size w2 w5) := h8.out.2.2.2.trans (hb5.mono h8.out.2.2.2.size)
    have hw4g : Hid (G + 1 < w4.heap.size) := R8.out.lt
    have hw4 : w.heap.size + 3 <= w4.heap.size := by have := R8.out.lt; omega
    have Z9 : Hid (Row (w5.alloc (.cells zPx.toArray 34)) G9 34 zPx) := Row.at w5 _ _ _ _ hE9 rfl
    cases hrq : readR q with
    | error ka =>
      obtain ⟨k, a⟩ := ka
      rw [hrq] at hm
      have hm : e = .returned (ansV zPx k a) := hm
      subst hm
      have hk := (readR_wrong hrq).1
      have HAP : Hid (joinsR p q = .error (k, a)) := by show _ = _; unfold joinsR; rw [hrd]; dsimp only; rw [hrq]
      have kne : (((k : Nat) : Int) == 0) = false := by rw [beq_eq_false_iff_ne]; omega
      obtain ⟨ZP, hZP⟩ : ∃ ZP : Array Value, ZP = zPx.toArray := ⟨_, rfl⟩
      have HZP : Hid (ZP = zPx.toArray) := hZP
      unfold ansV
      rw [<- hZP]
      dsimp only
      clear hrd hrq hZP hE9 hG9 hb5 h8 R8 HQ
      go_wp2_with (first
        | (have hz := Z9; clear hz; rw [<- HG9.out]; refine wpList_store_Row rfl 34 (.tmp 9) (.tmp 24) rfl G9 34 0 zPx zPx Z9.out (Nat.le_refl _) rfl (congrArg Value.agg HZP.out) (by kernel_rfl) zPx_one ?_; intro w6 hr6 hs6; have h7 : Hid (Row w6 (G + 1) 37 [.int .i64 0, .int .i64 0] /\ J3 w w6) := ⟨(J5.out.2.2.1.alloc _).but hs6 (by omega), (J5.out.1.keep ((Below.refl _ _).alloc (Nat.le_refl _) _)).but hs6 g91⟩; clear hr6 hs6 Z9 J5)
        | (have hz := h7; clear hz; refine wpList_store_Row rfl 37 (.tmp 8) (.tmp 25) rfl (G + 1) 37 0 [.int .i64 0, .int .i64 0] [.int .i64 (k : Int), .int .i64 (a : Int)] h7.out.1 (Nat.le_refl _) rfl rfl (by kernel_rfl) (wr2_one _ _) ?_; intro w7 hr7 hs7; have h8 : Hid (Row w7 (G + 1) 37 [.int .i64 (k : Int), .int .i64 (a : Int)] /\ J3 w w7) := ⟨row_whole hr7 (Nat.le_refl _), h7.out.2.but hs7 (by omega)⟩; have c0 := h8.out.1.cell 0 _ rfl; clear hr7 hs7 h7))
      have M3 : Hid (JE w [.int .i64 (k : Int), .int .i64 (a : Int)] (G + 1) false w7.drew) := ⟨h8.out.2.r4, h8.out.2.r5, h8.out.2.r6, h8.out.1, h8.out.2.bel.drew⟩
      clear c0 h8
      refine wp_region_inv (IJO6 w [.int .i64 (k : Int), .int .i64 (a : Int)] (G + 1) _ _ _ _ _ _ _ _ _ _ _ _ _ _ _ _ _ _ _ _ _ _ _ _ _ _ _ _ _ _ _ _ _ _ _ _ _ _ _ _ _ _ _ _ _ _ _) (by kernel_rfl) (by kernel_rfl) ⟨_, _, _, rfl, ⟨M3.out, fun k => (by cases k), fun k => (by cases k), fun k => (by cases k)⟩⟩ ?_ ?_
      · refine .cons ?_ (.cons ?_ (.cons ?_ (.cons ?_ (.cons ?_ (.cons ?_ .nil)))))
        all_goals (rintro L _ W ⟨x29, x30, x31, rfl, hI⟩ hL hd K hK)
        · rw [if_pos (by rfl)]
          go_simp
          exact hK.out _ _ ⟨_, _, _, rfl, { hI with p0 := fun _ => rfl }⟩
        · rw [if_pos (by rfl)]
          go_simp
          exact hK.out _ _ ⟨_, _, _, rfl, { hI with p1 := fun _ => rfl }⟩
        · refine step_load_Row rfl 37 _ rfl (G + 1) 37 [.int .i64 (k : Int), .int .i64 (a : Int)] hI.x.r8 rfl _ Tryd.underlying37 rfl (by kernel_rfl) ?_
          exact hK.out _ _ ⟨_, _, _, rfl, { hI with p2 := fun _ => rfl }⟩
        · obtain rfl := hI.p0 (hd 0 (by decide))
          refine step_store_Row rfl 34 _ _ rfl (w.heap.size) 34 zPx zPx hI.x.r4 rfl rfl rfl (by kernel_rfl) zPx_one ?_
          intro W2 hr2 hs2
          have hX := hI.x.s3 (by omega) hr2 hs2
          exact hK.out _ _ ⟨_, _, _, rfl, { hI with x := hX }⟩
        · obtain rfl := hI.p1 (hd 1 (by decide))
          refine step_store_Row rfl 34 _ _ rfl (w.heap.size + 1) 34 zPx zPx hI.x.r5 rfl rfl rfl (by kernel_rfl) zPx_one ?_
          intro W2 hr2 hs2
          have hX := hI.x.s4 (by omega) hr2 hs2
          exact hK.out _ _ ⟨_, _, _, rfl, { hI with x := hX }⟩
        · obtain rfl := hI.p2 (hd 2 (by decide))
          refine step_store_Row rfl 37 _ _ rfl (w.heap.size + 2) 37 [.int .i64 0, .int .i64 0] [.int .i64 (k : Int), .int .i64 (a : Int)] (hI.x.no hL) rfl rfl rfl (by kernel_rfl) (wr2_one _ _) ?_
          intro W2 hr2 hs2
          have hX := hI.x.s5 (by omega) hr2 hs2
          exact hK.out _ _ ⟨_, _, _, rfl, { hI with x := hX }⟩
      · rintro L _ W hall ⟨x29, x30, x31, rfl, hI⟩
        obtain rfl := hI.p0 (hall 0 (by decide))
        obtain rfl := hI.p1 (hall 1 (by decide))
        obtain rfl := hI.p2 (hall 2 (by decide))
        have hXe := hI.x
        rw [hall 5 (by decide)] at hXe
        clear hI hall
        try dsimp only
        have hr := hXe.r6
        rw [if_pos rfl] at hr
        have HE : Hid (Row W w.heap.size 34 zPx /\ Row W (w.heap.size + 1) 34 zPx /\ Below w.heap.size w W) := ⟨hXe.r4, hXe.r5, hXe.bel⟩
        clear hXe
        go_wp2
        refine bodyPost_ret_by (results_rrr Tryd.results20 _ W w.heap.size 34 (w.heap.size + 1) 34 (w.heap.size + 2) 37 _ _ _ _ _ _ rfl HE.out.1 Tryd.underlying34 rfl (by kernel_rfl) rfl HE.out.2.1 Tryd.underlying34 rfl (by kernel_rfl) rfl hr Tryd.underlying37 rfl (by kernel_rfl)) rfl ?_
        exact AP.out k a HAP.out _ HE.out.2.2
    | ok y =>
      rw [hrq] at hm
      obtain ⟨D, he, hpy⟩ := hm
      subst he
      have lD := hpy.len
      obtain ⟨do', dc, hD, _⟩ := hpy.eq
      have oD : Hid (∀ v ∈ D, v.oneCell' = true) := by rw [hD]; exact pxC_one _ _ _ _ _ _ _
      have hoky := hpy.ok
      have HD : Hid (D = pxC y.old y.new y.before y.after (.slice do' y.l.length dc)) := hD
      clear hD
      have HVY : Hid (PxV w4.heap.size w5 y D) := hpy
      have hgw : G <= w5.heap.size := by omega
      have HGG : Hid (G = w2.heap.size) := HG.out
      have HST2 : Hid (∀ w6 w7, SameBut G9 (w5.alloc (.cells zPx.toArray 34)) w6 -> SameBut (G + 1) w6 w7 -> Row w6 G9 34 D -> J3 w w7 /\ Row w7 G 34 C /\ Row w7 G9 34 D /\ PxV (w.heap.size + 3) w7 x C /\ PxV (w.heap.size + 3) w7 y D) := fun w6 w7 h6 h7 hr6 => by
        have b56 : Below w5.heap.size w5 w6 := h6.below ((Below.refl _ _).alloc (Nat.le_refl _) _) (by omega)
        have hgg := HGG.out
        have b27 : Below w2.heap.size w2 w7 := h7.below (B25.out.trans (b56.mono B25.out.size)) (by omega)
        refine ⟨(J5.out.1.keep b56).but h7 (by omega), (J5.out.2.1.below b56 J5.out.2.1.lt).but h7 (by omega), hr6.but h7 (by omega), HXK.out _ b27, ?_⟩
        exact ((HVY.out.keep b56).low h7 hw4g.out).le hw4
      have HAPC : Hid (joinsR p q = if y.old ≠ x.new ∨ y.before ≠ x.after then .error (11, 5) else .ok (x, y)) := by show _ = _; unfold joinsR; rw [hrd]; dsimp only; rw [hrq]
      have R85 : Hid (Row w5 (G + 1) 37 [.int .i64 0, .int .i64 0]) := J5.out.2.2.1
      have RNG : Hid (∀ W, Row W G 34 C -> W.rangeAt G 32 (x.new.map B8) /\ W.cell? ⟨G, 65, none⟩ = some (.int .i64 (x.after : Int))) := fun W h => by
        have hc := h.cell 65 _ (by rw [HC.out]; exact pxC_aft hok.lo hok.ln)
        rw [HC.out] at h
        exact ⟨pxC_rngN h hok.lo, hc⟩
      have RNH : Hid (∀ W, Row W G9 34 D -> W.rangeAt G9 0 (y.old.map B8) /\ W.cell? ⟨G9, 64, none⟩ = some (.int .i64 (y.before : Int))) := fun W h => by
        have hc := h.cell 64 _ (by rw [HD.out]; exact pxC_bef hoky.lo hoky.ln)
        rw [HD.out] at h
        exact ⟨pxC_rngO h hoky.lo, hc⟩
      obtain ⟨r, hr⟩ : ∃ r, r = decide (y.old = x.new) := ⟨_, rfl⟩
      have qe := eq_any y.old x.new hoky.lo hok.ln r hr
      have HRR : Hid (r = decide (y.old = x.new)) := hr
      have lyo : (y.old.map B8).length = 32 := by rw [List.length_map, hoky.lo]
      have lxn : (x.new.map B8).length = 32 := by rw [List.length_map, hok.ln]
      unfold ansV
      dsimp only
      clear hrd hrq hE9 hG9 hb5 h8 R8 HQ hpy HVY HXK B25 hr hw4 hgw J5 hok hoky hw4g
      generalize hYO : y.old.map B8 = YO at *
      clear hYO
      generalize hXN : x.new.map B8 = XN at *
      clear hXN
      cases r with
      | false =>
        have HAP : Hid (joinsR p q = .error (11, 5)) := by show _ = _; rw [HAPC.out, if_pos (.inl (of_decide_eq_false HRR.out.symm))]
        clear HAPC HRR
        generalize y.before = yb at *
        generalize x.after = xa at *
        go_wp2_with (first
          | (have hz := Z9; clear hz; rw [<- HG9.out]; refine wpList_store_Row rfl 34 (.tmp 9) (.tmp 24) rfl G9 34 0 zPx D Z9.out (by rw [lD]; exact Nat.le_refl _) rfl rfl (by rw [lD]; kernel_rfl) oD.out ?_; intro w6 hr6 hs6; have h7 : Hid (Row w6 (G + 1) 37 [.int .i64 0, .int .i64 0] /\ Row w6 G9 34 D /\ SameBut G9 (w5.alloc (.cells zPx.toArray 34)) w6) := ⟨(R85.out.alloc _).but hs6 (by omega), row_whole hr6 (by rw [lD]; exact Nat.le_refl _), hs6⟩; clear hr6 hs6 Z9 R85)
          | (have hz := h7; clear hz; refine wpList_store_Row rfl 37 (.tmp 8) (.tmp 25) rfl (G + 1) 37 0 [.int .i64 0, .int .i64 0] [.int .i64 0, .int .i64 0] h7.out.1 (Nat.le_refl _) rfl rfl (by kernel_rfl) (wr2_one _ _) ?_; intro w7 hr7 hs7; have H7 : Hid _ := HST2.out _ _ h7.out.2.2 hs7 h7.out.2.1; have c0 := (row_whole hr7 (Nat.le_refl _)).cell 0 _ rfl; obtain ⟨hra, cyb⟩ := RNH.out _ H7.out.2.2.1; obtain ⟨hrb, cxa⟩ := RNG.out _ H7.out.2.1; clear hr7 hs7 h7 HST2 RNH RNG)
          | (have hz := hra; clear hz; refine wpList_load_mid rfl 25 (.tmp 32) rfl G9 0 rfl YO _ hra Tryd.underlying25 rfl (by rw [lyo]; kernel_rfl) ?_; clear hra)
          | (have hz := hrb; clear hz; refine wpList_load_mid rfl 25 (.tmp 34) rfl G 32 rfl XN _ hrb Tryd.underlying25 rfl (by rw [lxn]; kernel_rfl) ?_; clear hrb)
          | (have hz := H7; clear hz; refine wpList_store_Row rfl 34 (.tmp 4) (.tmp 44) rfl w.heap.size 34 0 zPx zPx H7.out.1.r4 (Nat.le_refl _) rfl rfl (by kernel_rfl) zPx_one ?_; intro w8 hr8 hs8; have h8 : Hid (Row w8 w.heap.size 34 zPx /\ Row w8 (w.heap.size + 1) 34 zPx /\ Row w8 (w.heap.size + 2) 37 [.int .i64 0, .int .i64 0] /\ Below w.heap.size w w8) := ⟨row_whole hr8 (Nat.le_refl _), H7.out.1.r5.but hs8 (by omega), H7.out.1.r6.but hs8 (by omega), hs8.below H7.out.1.bel (Nat.le_refl _)⟩; clear hr8 hs8 H7)
          | (have hz := h8; clear hz; refine wpList_store_Row rfl 34 (.tmp 5) (.tmp 45) rfl (w.heap.size + 1) 34 0 zPx zPx h8.out.2.1 (Nat.le_refl _) rfl rfl (by kernel_rfl) zPx_one ?_; intro w9 hr9 hs9; have h9 : Hid (Row w9 w.heap.size 34 zPx /\ Row w9 (w.heap.size + 1) 34 zPx /\ Row w9 (w.heap.size + 2) 37 [.int .i64 0, .int .i64 0] /\ Below w.heap.size w w9) := ⟨h8.out.1.but hs9 (by omega), row_whole hr9 (Nat.le_refl _), h8.out.2.2.1.but hs9 (by omega), hs9.below h8.out.2.2.2 (by omega)⟩; clear hr9 hs9 h8)
          | (have hz := h9; clear hz; refine wpList_store_Row rfl 37 (.tmp 6) (.tmp 46) rfl (w.heap.size + 2) 37 0 [.int .i64 0, .int .i64 0] [.int .i64 11, .int .i64 5] h9.out.2.2.1 (Nat.le_refl _) rfl rfl (by kernel_rfl) (wr2_one _ _) ?_; intro w10 hr10 hs10; have h10 : Hid (Row w10 w.heap.size 34 zPx /\ Row w10 (w.heap.size + 1) 34 zPx /\ Row w10 (w.heap.size + 2) 37 [.int .i64 11, .int .i64 5] /\ Below w.heap.size w w10) := ⟨h9.out.1.but hs10 (by omega), h9.out.2.1.but hs10 (by omega), row_whole hr10 (Nat.le_refl _), hs10.below h9.out.2.2.2 (by omega)⟩; clear hr10 hs10 h9))
        refine bodyPost_ret_by (results_rrr Tryd.results20 _ w10 w.heap.size 34 (w.heap.size + 1) 34 (w.heap.size + 2) 37 _ _ _ _ _ _ rfl h10.out.1 Tryd.underlying34 rfl (by kernel_rfl) rfl h10.out.2.1 Tryd.underlying34 rfl (by kernel_rfl) rfl h10.out.2.2.1 Tryd.underlying37 rfl (by kernel_rfl)) rfl ?_
        exact AP.out 11 5 HAP.out _ h10.out.2.2.2
      | true =>
        by_cases hbf : y.before = x.after
        · have HAP : Hid (joinsR p q = .ok (x, y)) := by show _ = _; rw [HAPC.out, if_neg (fun h => h.elim (fun h => h (of_decide_eq_true HRR.out.symm)) (fun h => h hbf))]
          have ne1 : ((y.before : Int) != (x.after : Int)) = false := by rw [bne_eq_false_iff_eq]; omega
          clear HAPC HRR hbf
          generalize y.before = yb at *
          generalize x.after = xa at *
          go_wp2_with (first
            | (have hz := Z9; clear hz; rw [<- HG9.out]; refine wpList_store_Row rfl 34 (.tmp 9) (.tmp 24) rfl G9 34 0 zPx D Z9.out (by rw [lD]; exact Nat.le_refl _) rfl rfl (by rw [lD]; kernel_rfl) oD.out ?_; intro w6 hr6 hs6; have h7 : Hid (Row w6 (G + 1) 37 [.int .i64 0, .int .i64 0] /\ Row w6 G9 34 D /\ SameBut G9 (w5.alloc (.cells zPx.toArray 34)) w6) := ⟨(R85.out.alloc _).but hs6 (by omega), row_whole hr6 (by rw [lD]; exact Nat.le_refl _), hs6⟩; clear hr6 hs6 Z9 R85)
            | (have hz := h7; clear hz; refine wpList_store_Row rfl 37 (.tmp 8) (.tmp 25) rfl (G + 1) 37 0 [.int .i64 0, .int .i64 0] [.int .i64 0, .int .i64 0] h7.out.1 (Nat.le_refl _) rfl rfl (by kernel_rfl) (wr2_one _ _) ?_; intro w7 hr7 hs7; have H7 : Hid _ := HST2.out _ _ h7.out.2.2 hs7 h7.out.2.1; have c0 := (row_whole hr7 (Nat.le_refl _)).cell 0 _ rfl; obtain ⟨hra, cyb⟩ := RNH.out _ H7.out.2.2.1; obtain ⟨hrb, cxa⟩ := RNG.out _ H7.out.2.1; clear hr7 hs7 h7 HST2 RNH RNG)
            | (have hz := hra; clear hz; refine wpList_load_mid rfl 25 (.tmp 32) rfl G9 0 rfl YO _ hra Tryd.underlying25 rfl (by rw [lyo]; kernel_rfl) ?_; clear hra)
            | (have hz := hrb; clear hz; refine wpList_load_mid rfl 25 (.tmp 34) rfl G 32 rfl XN _ hrb Tryd.underlying25 rfl (by rw [lxn]; kernel_rfl) ?_; clear hrb))
          have M9 : Hid (JK w x y C D G G9 false false w7.drew) := ⟨H7.out.1.r4, H7.out.1.r5, H7.out.1.r6, H7.out.2.1, H7.out.2.2.1, H7.out.2.2.2.1.keep (Below.refl _ _).drew, H7.out.2.2.2.2.keep (Below.refl _ _).drew, H7.out.1.bel.drew⟩
          clear H7
          refine wp_region_inv (IJO9 w x y C D G G9 _ _ _ _ _ _ _ _ _ _ _ _ _ _ _ _ _ _ _ _ _ _ _ _ _ _ _ _ _ _ _ _ _ _ _ _ _ _ _ _ _ _ _ _ _ _ _) (by kernel_rfl) (by kernel_rfl) ⟨_, _, _, rfl, ⟨M9.out, fun k => (by cases k), fun k => (by cases k), fun k => (by cases k)⟩⟩ ?_ ?_
          · refine .cons ?_ (.cons ?_ (.cons ?_ (.cons ?_ (.cons ?_ (.cons ?_ .nil)))))
            all_goals (rintro L _ W ⟨x47, x48, x49, rfl, hI⟩ hL hd K hK)
            · refine step_load_Row rfl 34 _ rfl G 34 C hI.x.rx rfl _ Tryd.underlying34 rfl (by rw [lC]; kernel_rfl) ?_
              exact hK.out _ _ ⟨_, _, _, rfl, { hI with p0 := fun _ => rfl }⟩
            · refine step_load_Row rfl 34 _ rfl G9 34 D hI.x.ry rfl _ Tryd.underlying34 rfl (by rw [lD]; kernel_rfl) ?_
              exact hK.out _ _ ⟨_, _, _, rfl, { hI with p1 := fun _ => rfl }⟩
            · rw [if_pos (by rfl)]
              go_simp
              exact hK.out _ _ ⟨_, _, _, rfl, { hI with p2 := fun _ => rfl }⟩
            · obtain rfl := hI.p0 (hd 0 (by decide))
              refine step_store_Row rfl 34 _ _ rfl w.heap.size 34 zPx C (hI.x.n3 hL) (by rw [lC]; rfl) rfl rfl (by rw [lC]; kernel_rfl) oC.out ?_
              intro W2 hr2 hs2
              have hX := hI.x.s3 (by omega) (by omega) hr2 hs2
              exact hK.out _ _ ⟨_, _, _, rfl, { hI with x := hX }⟩
            · obtain rfl := hI.p1 (hd 1 (by decide))
              refine step_store_Row rfl 34 _ _ rfl (w.heap.size + 1) 34 zPx D (hI.x.n4 hL) (by rw [lD]; rfl) rfl rfl (by rw [lD]; kernel_rfl) oD.out ?_
              intro W2 hr2 hs2
              have hX := hI.x.s4 (by omega) (by omega) hr2 hs2
              exact hK.out _ _ ⟨_, _, _, rfl, { hI with x := hX }⟩
            · obtain rfl := hI.p2 (hd 2 (by decide))
              refine step_store_Row rfl 37 _ _ rfl (w.heap.size + 2) 37 [.int .i64 0, .int .i64 0] [.int .i64 0, .int .i64 0] hI.x.r6 rfl rfl rfl (by kernel_rfl) (wr2_one _ _) ?_
              intro W2 hr2 hs2
              have hX := hI.x.s5 (by omega) (by omega) hr2 hs2
              exact hK.out _ _ ⟨_, _, _, rfl, { hI with x := hX }⟩
          · rintro L _ W hall ⟨x47, x48, x49, rfl, hI⟩
            obtain rfl := hI.p0 (hall 0 (by decide))
            obtain rfl := hI.p1 (hall 1 (by decide))
            obtain rfl := hI.p2 (hall 2 (by decide))
            have hXe := hI.x
            rw [hall 3 (by decide)] at hXe
            rw [hall 4 (by decide)] at hXe
            clear hI hall
            try dsimp only
            have hr4 := hXe.r4
            have hr5 := hXe.r5
            rw [if_pos rfl] at hr4 hr5
            have HE : Hid (Row W (w.heap.size + 2) 37 [.int .i64 0, .int .i64 0] /\ Below w.heap.size w W /\ PxV (w.heap.size + 3) W x C /\ PxV (w.heap.size + 3) W y D) := ⟨hXe.r6, hXe.bel, hXe.vx, hXe.vy⟩
            clear hXe
            go_wp2
            refine bodyPost_ret_by (results_rrr Tryd.results20 _ W w.heap.size 34 (w.heap.size + 1) 34 (w.heap.size + 2) 37 _ _ _ _ _ _ rfl hr4 Tryd.underlying34 rfl (by rw [lC]; kernel_rfl) rfl hr5 Tryd.underlying34 rfl (by rw [lD]; kernel_rfl) rfl HE.out.1 Tryd.underlying37 rfl (by kernel_rfl)) rfl ?_
            unfold JoP
            rw [HAP.out]
            exact ⟨HE.out.2.1, C, D, rfl, HE.out.2.2.1.le (by omega), HE.out.2.2.2.le (by omega)⟩
        · have HAP : Hid (joinsR p q = .error (11, 5)) := by show _ = _; rw [HAPC.out, if_pos (.inr hbf)]
          have ne1 : ((y.before : Int) != (x.after : Int)) = true := by rw [bne_iff_ne]; omega
          clear HAPC HRR hbf
          generalize y.before = yb at *
          generalize x.after = xa at *
          go_wp2_with (first
            | (have hz := Z9; clear hz; rw [<- HG9.out]; refine wpList_store_Row rfl 34 (.tmp 9) (.tmp 24) rfl G9 34 0 zPx D Z9.out (by rw [lD]; exact Nat.le_refl _) rfl rfl (by rw [lD]; kernel_rfl) oD.out ?_; intro w6 hr6 hs6; have h7 : Hid (Row w6 (G + 1) 37 [.int .i64 0, .int .i64 0] /\ Row w6 G9 34 D /\ SameBut G9 (w5.alloc (.cells zPx.toArray 34)) w6) := ⟨(R85.out.alloc _).but hs6 (by omega), row_whole hr6 (by rw [lD]; exact Nat.le_refl _), hs6⟩; clear hr6 hs6 Z9 R85)
            | (have hz := h7; clear hz; refine wpList_store_Row rfl 37 (.tmp 8) (.tmp 25) rfl (G + 1) 37 0 [.int .i64 0, .int .i64 0] [.int .i64 0, .int .i64 0] h7.out.1 (Nat.le_refl _) rfl rfl (by kernel_rfl) (wr2_one _ _) ?_; intro w7 hr7 hs7; have H7 : Hid _ := HST2.out _ _ h7.out.2.2 hs7 h7.out.2.1; have c0 := (row_whole hr7 (Nat.le_refl _)).cell 0 _ rfl; obtain ⟨hra, cyb⟩ := RNH.out _ H7.out.2.2.1; obtain ⟨hrb, cxa⟩ := RNG.out _ H7.out.2.1; clear hr7 hs7 h7 HST2 RNH RNG)
            | (have hz := hra; clear hz; refine wpList_load_mid rfl 25 (.tmp 32) rfl G9 0 rfl YO _ hra Tryd.underlying25 rfl (by rw [lyo]; kernel_rfl) ?_; clear hra)
            | (have hz := hrb; clear hz; refine wpList_load_mid rfl 25 (.tmp 34) rfl G 32 rfl XN _ hrb Tryd.underlying25 rfl (by rw [lxn]; kernel_rfl) ?_; clear hrb)
            | (have hz := H7; clear hz; refine wpList_store_Row rfl 34 (.tmp 4) (.tmp 44) rfl w.heap.size 34 0 zPx zPx H7.out.1.r4 (Nat.le_refl _) rfl rfl (by kernel_rfl) zPx_one ?_; intro w8 hr8 hs8; have h8 : Hid (Row w8 w.heap.size 34 zPx /\ Row w8 (w.heap.size + 1) 34 zPx /\ Row w8 (w.heap.size + 2) 37 [.int .i64 0, .int .i64 0] /\ Below w.heap.size w w8) := ⟨row_whole hr8 (Nat.le_refl _), H7.out.1.r5.but hs8 (by omega), H7.out.1.r6.but hs8 (by omega), hs8.below H7.out.1.bel (Nat.le_refl _)⟩; clear hr8 hs8 H7)
            | (have hz := h8; clear hz; refine wpList_store_Row rfl 34 (.tmp 5) (.tmp 45) rfl (w.heap.size + 1) 34 0 zPx zPx h8.out.2.1 (Nat.le_refl _) rfl rfl (by kernel_rfl) zPx_one ?_; intro w9 hr9 hs9; have h9 : Hid (Row w9 w.heap.size 34 zPx /\ Row w9 (w.heap.size + 1) 34 zPx /\ Row w9 (w.heap.size + 2) 37 [.int .i64 0, .int .i64 0] /\ Below w.heap.size w w9) := ⟨h8.out.1.but hs9 (by omega), row_whole hr9 (Nat.le_refl _), h8.out.2.2.1.but hs9 (by omega), hs9.below h8.out.2.2.2 (by omega)⟩; clear hr9 hs9 h8)
            | (have hz := h9; clear hz; refine wpList_store_Row rfl 37 (.tmp 6) (.tmp 46) rfl (w.heap.size + 2) 37 0 [.int .i64 0, .int .i64 0] [.int .i64 11, .int .i64 5] h9.out.2.2.1 (Nat.le_refl _) rfl rfl (by kernel_rfl) (wr2_one _ _) ?_; intro w10 hr10 hs10; have h10 : Hid (Row w10 w.heap.size 34 zPx /\ Row w10 (w.heap.size + 1) 34 zPx /\ Row w10 (w.heap.size + 2) 37 [.int .i64 11, .int .i64 5] /\ Below w.heap.size w w10) := ⟨h9.out.1.but hs10 (by omega), h9.out.2.1.but hs10 (by omega), row_whole hr10 (Nat.le_refl _), hs10.below h9.out.2.2.2 (by omega)⟩; clear hr10 hs10 h9))
          refine bodyPost_ret_by (results_rrr Tryd.results20 _ w10 w.heap.size 34 (w.heap.size + 1) 34 (w.heap.size + 2) 37 _ _ _ _ _ _ rfl h10.out.1 Tryd.underlying34 rfl (by kernel_rfl) rfl h10.out.2.1 Tryd.underlying34 rfl (by kernel_rfl) rfl h10.out.2.2.1 Tryd.underlying37 rfl (by kernel_rfl)) rfl ?_
          exact AP.out 11 5 HAP.out _ h10.out.2.2.2
end Go.Proofs.YtplpoehfdhkhmaaDoor
