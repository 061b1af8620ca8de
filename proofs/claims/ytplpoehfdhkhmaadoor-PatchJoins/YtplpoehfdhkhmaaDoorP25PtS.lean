
import Derived.Test.YtplpoehfdhkhmaaDoorP25Jo
/-! The reference's patch: part. (Printed by tools/gen25.py.) -/
namespace Go.Proofs.YtplpoehfdhkhmaaDoor
open Go.RowKit
set_option linter.unusedVariables false

theorem results_rtr {fn : Func} {p u v : Tmp} {ty tv : TypeId} (h : fn.results = #[.cell p ty, .tmp u, .cell v tv]) (tmps : Array Value) (w : World) (g t g3 t3 : Nat) (cs cs3 : List Value) (d d3 : TypeDesc)
    (hp : tmps.getD p undef = .pointer (some ⟨g, 0, none⟩)) (hr : Row w g t cs) (hu : Tryd.prog.underlying ty = some d) (hd : d.isRow = true) (hi : (Tryd.prog.info? ty).map (·.size) = some cs.length)
    (hp3 : tmps.getD v undef = .pointer (some ⟨g3, 0, none⟩)) (hr3 : Row w g3 t3 cs3) (hu3 : Tryd.prog.underlying tv = some d3) (hd3 : d3.isRow = true) (hi3 : (Tryd.prog.info? tv).map (·.size) = some cs3.length) :
    (results fn tmps).run Tryd.prog w = .ok (.tuple #[.agg cs.toArray, tmps.getD u undef, .agg cs3.toArray]) w := by
  have hl := run_loadVar_mid (P := Tryd.prog) w g 0 ty cs d (by have := hr.range 0 cs.length; simpa using this) hu hd hi
  have hl3 := run_loadVar_mid (P := Tryd.prog) w g3 0 tv cs3 d3 (by have := hr3.range 0 cs3.length; simpa using this) hu3 hd3 hi3
  rw [Array.getD_eq_getD_getElem?] at hp hp3
  simp only [results, h]
  simp [Sem.run_bind, Result.andThen, asAddr, hp, hp3, hl, hl3]
/-- What part tells. -/
def PaP (w : World) (bef aft : Nat) (l : List Pt) (p : List By) (a hv : Nat) (e : Ending) (w' : World) : Prop :=
  Below w.heap.size w w' /\ match partR bef aft l p a hv with
    | .error (k, b) => e = .returned (.tuple #[.agg zPt.toArray, .int .i64 0, .agg #[.int .i64 (k : Int), .int .i64 (b : Int)]])
    | .ok (y, nx) => ∃ v, e = .returned (.tuple #[.agg v.toArray, .int .i64 (nx : Int), .agg #[.int .i64 0, .int .i64 0]]) /\ PtV w.heap.size w' y v
/-- Its four blocks: the part's, the error's, and the two errors that it may tell. -/
structure PA (w : World) (n a g12 : Nat) (W : World) : Prop where
  r8 : Row W w.heap.size 65 zPt
  r10 : Row W (w.heap.size + 1) 37 [.int .i64 0, .int .i64 0]
  r11 : Row W (w.heap.size + 2) 37 [.int .i64 6, .int .i64 (n : Int)]
  r12 : Row W g12 37 [.int .i64 5, .int .i64 (a : Int)]
  bel : Below w.heap.size w W
  gt : w.heap.size + 3 <= g12
theorem PA.keep {w W W2 : World} {n a g12 : Nat} (h : PA w n a g12 W) (hb : Below W.heap.size W W2) : PA w n a g12 W2 :=
  ⟨h.r8.below hb h.r8.lt, h.r10.below hb h.r10.lt, h.r11.below hb h.r11.lt, h.r12.below hb h.r12.lt, h.bel.trans (hb.mono h.bel.size), h.gt⟩
theorem PA.but {w W W2 : World} {n a g12 g : Nat} (h : PA w n a g12 W) (hs : SameBut g W W2) (hg : w.heap.size + 3 <= g) (hg2 : g ≠ g12) : PA w n a g12 W2 :=
  ⟨h.r8.but hs (by omega), h.r10.but hs (by omega), h.r11.but hs (by omega), h.r12.but hs (fun e => hg2 e.symm), hs.below h.bel (by omega), h.gt⟩
/-- While an error is told. -/
structure PE (w : World) (c : List Value) (gE : Nat) (l5 : Bool) (W : World) : Prop where
  r8 : Row W w.heap.size 65 zPt
  r10 : Row W (w.heap.size + 1) 37 (if l5 = true then c else [.int .i64 0, .int .i64 0])
  rE : Row W gE 37 c
  bel : Below w.heap.size w W
section
variable {w : World} {c : List Value} {gE : Nat} {l5 : Bool} {W W2 : World}
theorem PE.no (h : PE w c gE l5 W) (hl : l5 = false) : Row W (w.heap.size + 1) 37 [.int .i64 0, .int .i64 0] := by
  have := h.r10
  subst hl
  exact this
theorem PE.s2 (h : PE w c gE l5 W) (hg : w.heap.size + 2 <= gE) (hr : Row W2 w.heap.size 65 zPt) (hs : SameBut w.heap.size W W2) : PE w c gE l5 W2 :=
  ⟨hr, h.r10.but hs (by omega), h.rE.but hs (by omega), hs.below h.bel (Nat.le_refl _)⟩
theorem PE.s4 (h : PE w c gE l5 W) (hg : w.heap.size + 2 <= gE) (hr : Row W2 (w.heap.size + 1) 37 c) (hs : SameBut (w.heap.size + 1) W W2) : PE w c gE true W2 :=
  ⟨h.r8.but hs (by omega), hr, h.rE.but hs (by omega), hs.below h.bel (by omega)⟩
end
theorem zPt_one : ∀ v ∈ zPt, v.oneCell' = true := by
  intro v hv
  simp at hv
  rcases hv with rfl | rfl | rfl | rfl <;> rfl
theorem ptC_one (lay : Bool) (f n : Nat) (ao : Option Addr) (k c : Nat) : ∀ v ∈ ptC lay f n (.slice ao k c), v.oneCell' = true := by
  intro v hv
  simp [ptC] at hv
  rcases hv with rfl | rfl | rfl | rfl <;> rfl

/-- What stands behind the first three blocks, and behind the first error that it may tell. -/
structure P1 (w w1 : World) : Prop where
  r8 : Row w1 w.heap.size 65 zPt
  r10 : Row w1 (w.heap.size + 1) 37 [.int .i64 0, .int .i64 0]
  r11 : Row w1 (w.heap.size + 2) 37 [.int .i64 0, .int .i64 0]
  bel : Below w.heap.size w w1
theorem P1.new (w : World) : P1 w (((w.alloc (.cells zPt.toArray 65)).alloc (.cells #[.int .i64 0, .int .i64 0] 37)).alloc (.cells #[.int .i64 0, .int .i64 0] 37)) :=
  ⟨((Row.at w _ _ _ _ rfl rfl).alloc _).alloc _, (Row.at _ _ _ _ _ (by simp) rfl).alloc _, Row.at _ _ _ _ _ (by simp) rfl, (((Below.refl _ _).alloc (Nat.le_refl _) _).alloc (by simp) _).alloc (by simp; omega) _⟩
structure P3 (w : World) (n : Nat) (w3 : World) : Prop where
  r8 : Row w3 w.heap.size 65 zPt
  r10 : Row w3 (w.heap.size + 1) 37 [.int .i64 0, .int .i64 0]
  r11 : Row w3 (w.heap.size + 2) 37 [.int .i64 6, .int .i64 (n : Int)]
  bel : Below w.heap.size w w3
theorem P3.new {w w1 w3 : World} {n : Nat} (h : P1 w w1) (hr : Row w3 (w.heap.size + 2) 37 [.int .i64 6, .int .i64 (n : Int)]) (hs : SameBut (w.heap.size + 2) w1 w3) : P3 w n w3 :=
  ⟨h.r8.but hs (by omega), h.r10.but hs (by omega), hr, hs.below h.bel (by omega)⟩
theorem PA.new {w w3 w4 : World} {n a : Nat} {o : Obj} (h : P3 w n w3) (hr : Row w4 w3.heap.size 37 [.int .i64 5, .int .i64 (a : Int)]) (hs : SameBut w3.heap.size (w3.alloc o) w4) : PA w n a w3.heap.size w4 :=
  ⟨(h.r8.alloc _).but hs (by have := h.r8.lt; omega), (h.r10.alloc _).but hs (by have := h.r10.lt; omega), (h.r11.alloc _).but hs (by have := h.r11.lt; omega), hr, hs.below (h.bel.alloc h.bel.size _) h.bel.size, (by have := h.r11.lt; omega)⟩
/-- And the part that is read, in a block of its own. -/
structure PY (w : World) (n a g12 G : Nat) (Y : List Value) (W : World) : Prop where
  pa : PA w n a g12 W
  ry : Row W G 65 Y
  g4 : w.heap.size + 4 <= G
  ne : g12 < G
theorem PY.new {w w4 w5 : World} {n a g12 : Nat} {o : Obj} {Y : List Value} (h : PA w n a g12 w4) (hr : Row w5 w4.heap.size 65 Y) (hs : SameBut w4.heap.size (w4.alloc o) w5) : PY w n a g12 w4.heap.size Y w5 :=
  ⟨(h.keep ((Below.refl _ _).alloc (Nat.le_refl _) _)).but hs (by have := h.r11.lt; omega) (by have := h.r12.lt; omega), hr, (by have h5 := h.r12.lt; have h6 := h.gt; omega), h.r12.lt⟩
theorem PY.keep {w W W2 : World} {n a g12 G : Nat} {Y : List Value} (h : PY w n a g12 G Y W) (hb : Below W.heap.size W W2) : PY w n a g12 G Y W2 :=
  ⟨h.pa.keep hb, h.ry.below hb h.ry.lt, h.g4, h.ne⟩
theorem PY.set {w W : World} {n a g12 G : Nat} {Y Y2 : List Value} (h : PY w n a g12 G Y W) (k : Nat) (v : Value) (he : Y.set k v = Y2) : PY w n a g12 G Y2 (W.setCell ⟨G, k, none⟩ v) :=
  ⟨h.pa.but (SameBut.setCell G k v W) (by have := h.g4; omega) (by have := h.ne; omega), by rw [<- he]; exact h.ry.set k v, h.g4, h.ne⟩
/-- The patch that is read, so far. -/
structure PaX (w : World) (gx : Nat) (old new : List By) (bef aft : Nat) (lo : Option Addr) (lc B0 : Nat) (l : List Pt) : Prop where
  row : Row w gx 34 (pxC old new bef aft (.slice lo l.length lc))
  lo' : old.length = 32
  ln' : new.length = 32
  bef : bef <= 524288
  aft : aft <= 524288
  len : l.length <= 524288
  adr : 0 < l.length -> lo = some ⟨B0, 0, none⟩
  parts : ∀ i x, l[i]? = some x -> (∃ m k c', w.rangeAt B0 (i * 4) (ptC x.lay x.frm x.n (.slice m k c'))) /\ x.frm < 4294967296 /\ x.n < 4294967296
section
variable {w W : World} {gx : Nat} {old new : List By} {bef aft : Nat} {lo : Option Addr} {lc B0 : Nat} {l : List Pt}
theorem PaX.cells (H : PaX w gx old new bef aft lo lc B0 l) (h : Below w.heap.size w W) : W.cell? ⟨gx, 64, none⟩ = some (.int .i64 (bef : Int)) /\ W.cell? ⟨gx, 65, none⟩ = some (.int .i64 (aft : Int)) /\ W.cell? ⟨gx, 66, none⟩ = some (.slice lo l.length lc) := by
  have hr := H.row.below h H.row.lt
  exact ⟨hr.cell 64 _ (pxC_bef H.lo' H.ln'), hr.cell 65 _ (pxC_aft H.lo' H.ln'), hr.cell 66 _ (pxC_sl H.lo' H.ln')⟩
theorem PaX.behind (H : PaX w gx old new bef aft lo lc B0 l) (h : Below w.heap.size w W) (lay : Bool) (f yn : Nat) : Calls Tryd.prog 41 #[.slice lo l.length lc, .agg (ptC lay f yn (.slice none 0 0)).toArray] W fun e w' => e = .returned (.bool (behB l lay f)) /\ Below W.heap.size W w' :=
  r25behind_any W lo l.length lc B0 l rfl (by have := H.len; omega) H.adr (fun i x hi => by
    obtain ⟨⟨m, k, c', hr⟩, h2⟩ := H.parts i x hi
    exact ⟨⟨m, k, c', fun j v hv => (h.cell (cell_lt25 (hr j v hv))).trans (hr j v hv)⟩, h2⟩) lay f yn none 0 0
end
theorem PaP.err {w : World} {bef aft : Nat} {l : List Pt} {p : List By} {a hv k b : Nat} {W : World} (h : partR bef aft l p a hv = .error (k, b)) (hbW : Below w.heap.size w W) : PaP w bef aft l p a hv (.returned (.tuple #[.agg zPt.toArray, .int .i64 0, .agg #[.int .i64 (k : Int), .int .i64 (b : Int)]])) W := by
  unfold PaP
  rw [h]
  exact ⟨hbW, rfl⟩
theorem PaP.ok {w : World} {bef aft : Nat} {l : List Pt} {p : List By} {a hv nx : Nat} {y : Pt} {v : List Value} {W : World} (h : partR bef aft l p a hv = .ok (y, nx)) (hbW : Below w.heap.size w W) (hv' : PtV w.heap.size W y v) : PaP w bef aft l p a hv (.returned (.tuple #[.agg v.toArray, .int .i64 (nx : Int), .agg #[.int .i64 0, .int .i64 0]])) W := by
  unfold PaP
  rw [h]
  exact ⟨hbW, v, rfl, hv'⟩
theorem byte_at25 {w W : World} {B off n a cb : Nat} {p : List By} (hp : IsB w (some ⟨B, off, none⟩) p) (hn : p.length = n) (hcb : (p.getD a 0).toNat = cb) (ha : a < n) (h : Below w.heap.size w W) : W.cell? ⟨B, off + a, none⟩ = some (.int .u8 (cb : Int)) := by
  obtain ⟨B', off', e, hc⟩ := hp.cell a (by omega)
  injection e with e
  injection e with e1 e2
  subst e1 e2
  rw [hcb] at hc
  exact (h.cell (cell_lt25 hc)).trans hc

theorem PV.new {w w8 wq : World} {n a g12 G N fe nx c5 : Nat} {Y : List Value} {ao5 : Option Addr} {PB : List By} (h : PY w n a g12 G Y w8) (ho : Own w8.heap.size wq (.slice ao5 (fe - nx) c5) PB) (hl : PB.length = fe - nx) (hz : w8.heap.size <= wq.heap.size) :
    ∀ wa wb, SameBut w.heap.size (wq.setCell ⟨G, 3, none⟩ (.slice ao5 (fe - nx) c5)) wa -> SameBut (w.heap.size + 1) wa wb -> PtV w.heap.size wb ⟨true, 0, N, PB⟩ (ptC true 0 N (.slice ao5 (fe - nx) c5)) := fun wa wb h1 h2 =>
  ⟨ao5, c5, by show _ = ptC true 0 N (.slice ao5 PB.length c5); rw [hl], by
    show Own w.heap.size wb (.slice ao5 PB.length c5) PB
    rw [hl]
    have hG := h.g4
    have hlt := h.ry.lt
    exact own_le (((ho.low (SameBut.setCell G 3 _ wq) hlt).low h1 (by omega)).low h2 (by omega)) (by omega)⟩

structure PT4 (W1 : World) (c : List Value) (gE : Nat) (L : Nat -> Bool) (x24 x25 x9 : Value) (W : World) : Prop where
  x : PE W1 c gE (L 4) W
  p0 : L 0 = true -> x24 = .agg #[.bool false, .int .i64 0, .int .i64 0, .slice none 0 0]
  p1 : L 1 = true -> x25 = .agg c.toArray
  p3 : L 3 = true -> x9 = .int .i64 0
section
variable {W1 : World} {c : List Value} {gE : Nat} {L : Nat -> Bool} {x24 x25 x9 : Value} {W W2 : World}
theorem PT4.s2 (h : PT4 W1 c gE L x24 x25 x9 W) (hX : PE W1 c gE ((upd L 2) 4) W2) : PT4 W1 c gE (upd L 2) x24 x25 x9 W2 :=
  ⟨hX, h.p0, h.p1, h.p3⟩
theorem PT4.s4 (h : PT4 W1 c gE L x24 x25 x9 W) (hX : PE W1 c gE ((upd L 4) 4) W2) : PT4 W1 c gE (upd L 4) x24 x25 x9 W2 :=
  ⟨hX, h.p0, h.p1, h.p3⟩
end
@[reducible] def IPT4 (W1 : World) (c : List Value) (gE : Nat) (y0 y1 y2 y3 y4 y5 y6 y7 y8 y10 y11 y12 y13 y14 y15 y16 y17 y18 y19 y20 y21 y22 y23 y26 y27 y28 y29 y30 y31 y32 y33 y34 y35 y36 y37 y38 y39 y40 y41 y42 y43 y44 y45 y46 y47 y48 y49 y50 y51 y52 y53 y54 y55 y56 y57 y58 y59 y60 y61 y62 y63 y64 y65 y66 y67 y68 y69 y70 y71 y72 y73 y74 y75 y76 y77 y78 y79 y80 y81 y82 y83 y84 y85 y86 y87 y88 y89 y90 y91 y92 y93 y94 y95 y96 y97 y98 y99 y100 y101 y102 y103 y104 y105 y106 y107 y108 y109 y110 y111 y112 y113 y114 y115 y116 y117 y118 y119 y120 y121 y122 y123 y124 y125 y126 y127 y128 y129 y130 y131 y132 y133 y134 y135 y136 y137 y138 y139 y140 : Value) : (Nat -> Bool) -> Act -> World -> Prop := fun L a W => ∃ x24 x25 x9, a = ⟨#[y0, y1, y2, y3, y4, y5, y6, y7, y8, x9, y10, y11, y12, y13, y14, y15, y16, y17, y18, y19, y20, y21, y22, y23, x24, x25, y26, y27, y28, y29, y30, y31, y32, y33, y34, y35, y36, y37, y38, y39, y40, y41, y42, y43, y44, y45, y46, y47, y48, y49, y50, y51, y52, y53, y54, y55, y56, y57, y58, y59, y60, y61, y62, y63, y64, y65, y66, y67, y68, y69, y70, y71, y72, y73, y74, y75, y76, y77, y78, y79, y80, y81, y82, y83, y84, y85, y86, y87, y88, y89, y90, y91, y92, y93, y94, y95, y96, y97, y98, y99, y100, y101, y102, y103, y104, y105, y106, y107, y108, y109, y110, y111, y112, y113, y114, y115, y116, y117, y118, y119, y120, y121, y122, y123, y124, y125, y126, y127, y128, y129, y130, y131, y132, y133, y134, y135, y136, y137, y138, y139, y140], []⟩ /\ PT4 W1 c gE L x24 x25 x9 W
structure PT7 (W1 : World) (c : List Value) (gE : Nat) (L : Nat -> Bool) (x44 x45 x9 : Value) (W : World) : Prop where
  x : PE W1 c gE (L 4) W
  p0 : L 0 = true -> x44 = .agg #[.bool false, .int .i64 0, .int .i64 0, .slice none 0 0]
  p1 : L 1 = true -> x45 = .agg c.toArray
  p3 : L 3 = true -> x9 = .int .i64 0
section
variable {W1 : World} {c : List Value} {gE : Nat} {L : Nat -> Bool} {x44 x45 x9 : Value} {W W2 : World}
theorem PT7.s2 (h : PT7 W1 c gE L x44 x45 x9 W) (hX : PE W1 c gE ((upd L 2) 4) W2) : PT7 W1 c gE (upd L 2) x44 x45 x9 W2 :=
  ⟨hX, h.p0, h.p1, h.p3⟩
theorem PT7.s4 (h : PT7 W1 c gE L x44 x45 x9 W) (hX : PE W1 c gE ((upd L 4) 4) W2) : PT7 W1 c gE (upd L 4) x44 x45 x9 W2 :=
  ⟨hX, h.p0, h.p1, h.p3⟩
end
@[reducible] def IPT7 (W1 : World) (c : List Value) (gE : Nat) (y0 y1 y2 y3 y4 y5 y6 y7 y8 y10 y11 y12 y13 y14 y15 y16 y17 y18 y19 y20 y21 y22 y23 y24 y25 y26 y27 y28 y29 y30 y31 y32 y33 y34 y35 y36 y37 y38 y39 y40 y41 y42 y43 y46 y47 y48 y49 y50 y51 y52 y53 y54 y55 y56 y57 y58 y59 y60 y61 y62 y63 y64 y65 y66 y67 y68 y69 y70 y71 y72 y73 y74 y75 y76 y77 y78 y79 y80 y81 y82 y83 y84 y85 y86 y87 y88 y89 y90 y91 y92 y93 y94 y95 y96 y97 y98 y99 y100 y101 y102 y103 y104 y105 y106 y107 y108 y109 y110 y111 y112 y113 y114 y115 y116 y117 y118 y119 y120 y121 y122 y123 y124 y125 y126 y127 y128 y129 y130 y131 y132 y133 y134 y135 y136 y137 y138 y139 y140 : Value) : (Nat -> Bool) -> Act -> World -> Prop := fun L a W => ∃ x44 x45 x9, a = ⟨#[y0, y1, y2, y3, y4, y5, y6, y7, y8, x9, y10, y11, y12, y13, y14, y15, y16, y17, y18, y19, y20, y21, y22, y23, y24, y25, y26, y27, y28, y29, y30, y31, y32, y33, y34, y35, y36, y37, y38, y39, y40, y41, y42, y43, x44, x45, y46, y47, y48, y49, y50, y51, y52, y53, y54, y55, y56, y57, y58, y59, y60, y61, y62, y63, y64, y65, y66, y67, y68, y69, y70, y71, y72, y73, y74, y75, y76, y77, y78, y79, y80, y81, y82, y83, y84, y85, y86, y87, y88, y89, y90, y91, y92, y93, y94, y95, y96, y97, y98, y99, y100, y101, y102, y103, y104, y105, y106, y107, y108, y109, y110, y111, y112, y113, y114, y115, y116, y117, y118, y119, y120, y121, y122, y123, y124, y125, y126, y127, y128, y129, y130, y131, y132, y133, y134, y135, y136, y137, y138, y139, y140], []⟩ /\ PT7 W1 c gE L x44 x45 x9 W
structure PT12 (W1 : World) (c : List Value) (gE : Nat) (L : Nat -> Bool) (x56 x57 x9 : Value) (W : World) : Prop where
  x : PE W1 c gE (L 4) W
  p0 : L 0 = true -> x56 = .agg #[.bool false, .int .i64 0, .int .i64 0, .slice none 0 0]
  p1 : L 1 = true -> x57 = .agg c.toArray
  p3 : L 3 = true -> x9 = .int .i64 0
section
variable {W1 : World} {c : List Value} {gE : Nat} {L : Nat -> Bool} {x56 x57 x9 : Value} {W W2 : World}
theorem PT12.s2 (h : PT12 W1 c gE L x56 x57 x9 W) (hX : PE W1 c gE ((upd L 2) 4) W2) : PT12 W1 c gE (upd L 2) x56 x57 x9 W2 :=
  ⟨hX, h.p0, h.p1, h.p3⟩
theorem PT12.s4 (h : PT12 W1 c gE L x56 x57 x9 W) (hX : PE W1 c gE ((upd L 4) 4) W2) : PT12 W1 c gE (upd L 4) x56 x57 x9 W2 :=
  ⟨hX, h.p0, h.p1, h.p3⟩
end
@[reducible] def IPT12 (W1 : World) (c : List Value) (gE : Nat) (y0 y1 y2 y3 y4 y5 y6 y7 y8 y10 y11 y12 y13 y14 y15 y16 y17 y18 y19 y20 y21 y22 y23 y24 y25 y26 y27 y28 y29 y30 y31 y32 y33 y34 y35 y36 y37 y38 y39 y40 y41 y42 y43 y44 y45 y46 y47 y48 y49 y50 y51 y52 y53 y54 y55 y58 y59 y60 y61 y62 y63 y64 y65 y66 y67 y68 y69 y70 y71 y72 y73 y74 y75 y76 y77 y78 y79 y80 y81 y82 y83 y84 y85 y86 y87 y88 y89 y90 y91 y92 y93 y94 y95 y96 y97 y98 y99 y100 y101 y102 y103 y104 y105 y106 y107 y108 y109 y110 y111 y112 y113 y114 y115 y116 y117 y118 y119 y120 y121 y122 y123 y124 y125 y126 y127 y128 y129 y130 y131 y132 y133 y134 y135 y136 y137 y138 y139 y140 : Value) : (Nat -> Bool) -> Act -> World -> Prop := fun L a W => ∃ x56 x57 x9, a = ⟨#[y0, y1, y2, y3, y4, y5, y6, y7, y8, x9, y10, y11, y12, y13, y14, y15, y16, y17, y18, y19, y20, y21, y22, y23, y24, y25, y26, y27, y28, y29, y30, y31, y32, y33, y34, y35, y36, y37, y38, y39, y40, y41, y42, y43, y44, y45, y46, y47, y48, y49, y50, y51, y52, y53, y54, y55, x56, x57, y58, y59, y60, y61, y62, y63, y64, y65, y66, y67, y68, y69, y70, y71, y72, y73, y74, y75, y76, y77, y78, y79, y80, y81, y82, y83, y84, y85, y86, y87, y88, y89, y90, y91, y92, y93, y94, y95, y96, y97, y98, y99, y100, y101, y102, y103, y104, y105, y106, y107, y108, y109, y110, y111, y112, y113, y114, y115, y116, y117, y118, y119, y120, y121, y122, y123, y124, y125, y126, y127, y128, y129, y130, y131, y132, y133, y134, y135, y136, y137, y138, y139, y140], []⟩ /\ PT12 W1 c gE L x56 x57 x9 W
structure PT17 (W1 : World) (c : List Value) (gE : Nat) (L : Nat -> Bool) (x111 x112 x9 : Value) (W : World) : Prop where
  x : PE W1 c gE (L 4) W
  p0 : L 0 = true -> x111 = .agg #[.bool false, .int .i64 0, .int .i64 0, .slice none 0 0]
  p1 : L 1 = true -> x112 = .agg c.toArray
  p3 : L 3 = true -> x9 = .int .i64 0
section
variable {W1 : World} {c : List Value} {gE : Nat} {L : Nat -> Bool} {x111 x112 x9 : Value} {W W2 : World}
theorem PT17.s2 (h : PT17 W1 c gE L x111 x112 x9 W) (hX : PE W1 c gE ((upd L 2) 4) W2) : PT17 W1 c gE (upd L 2) x111 x112 x9 W2 :=
  ⟨hX, h.p0, h.p1, h.p3⟩
theorem PT17.s4 (h : PT17 W1 c gE L x111 x112 x9 W) (hX : PE W1 c gE ((upd L 4) 4) W2) : PT17 W1 c gE (upd L 4) x111 x112 x9 W2 :=
  ⟨hX, h.p0, h.p1, h.p3⟩
end
@[reducible] def IPT17 (W1 : World) (c : List Value) (gE : Nat) (y0 y1 y2 y3 y4 y5 y6 y7 y8 y10 y11 y12 y13 y14 y15 y16 y17 y18 y19 y20 y21 y22 y23 y24 y25 y26 y27 y28 y29 y30 y31 y32 y33 y34 y35 y36 y37 y38 y39 y40 y41 y42 y43 y44 y45 y46 y47 y48 y49 y50 y51 y52 y53 y54 y55 y56 y57 y58 y59 y60 y61 y62 y63 y64 y65 y66 y67 y68 y69 y70 y71 y72 y73 y74 y75 y76 y77 y78 y79 y80 y81 y82 y83 y84 y85 y86 y87 y88 y89 y90 y91 y92 y93 y94 y95 y96 y97 y98 y99 y100 y101 y102 y103 y104 y105 y106 y107 y108 y109 y110 y113 y114 y115 y116 y117 y118 y119 y120 y121 y122 y123 y124 y125 y126 y127 y128 y129 y130 y131 y132 y133 y134 y135 y136 y137 y138 y139 y140 : Value) : (Nat -> Bool) -> Act -> World -> Prop := fun L a W => ∃ x111 x112 x9, a = ⟨#[y0, y1, y2, y3, y4, y5, y6, y7, y8, x9, y10, y11, y12, y13, y14, y15, y16, y17, y18, y19, y20, y21, y22, y23, y24, y25, y26, y27, y28, y29, y30, y31, y32, y33, y34, y35, y36, y37, y38, y39, y40, y41, y42, y43, y44, y45, y46, y47, y48, y49, y50, y51, y52, y53, y54, y55, y56, y57, y58, y59, y60, y61, y62, y63, y64, y65, y66, y67, y68, y69, y70, y71, y72, y73, y74, y75, y76, y77, y78, y79, y80, y81, y82, y83, y84, y85, y86, y87, y88, y89, y90, y91, y92, y93, y94, y95, y96, y97, y98, y99, y100, y101, y102, y103, y104, y105, y106, y107, y108, y109, y110, x111, x112, y113, y114, y115, y116, y117, y118, y119, y120, y121, y122, y123, y124, y125, y126, y127, y128, y129, y130, y131, y132, y133, y134, y135, y136, y137, y138, y139, y140], []⟩ /\ PT17 W1 c gE L x111 x112 x9 W
structure PT20 (W1 : World) (c : List Value) (gE : Nat) (L : Nat -> Bool) (x122 x123 x9 : Value) (W : World) : Prop where
  x : PE W1 c gE (L 4) W
  p0 : L 0 = true -> x122 = .agg #[.bool false, .int .i64 0, .int .i64 0, .slice none 0 0]
  p1 : L 1 = true -> x123 = .agg c.toArray
  p3 : L 3 = true -> x9 = .int .i64 0
section
variable {W1 : World} {c : List Value} {gE : Nat} {L : Nat -> Bool} {x122 x123 x9 : Value} {W W2 : World}
theorem PT20.s2 (h : PT20 W1 c gE L x122 x123 x9 W) (hX : PE W1 c gE ((upd L 2) 4) W2) : PT20 W1 c gE (upd L 2) x122 x123 x9 W2 :=
  ⟨hX, h.p0, h.p1, h.p3⟩
theorem PT20.s4 (h : PT20 W1 c gE L x122 x123 x9 W) (hX : PE W1 c gE ((upd L 4) 4) W2) : PT20 W1 c gE (upd L 4) x122 x123 x9 W2 :=
  ⟨hX, h.p0, h.p1, h.p3⟩
end
@[reducible] def IPT20 (W1 : World) (c : List Value) (gE : Nat) (y0 y1 y2 y3 y4 y5 y6 y7 y8 y10 y11 y12 y13 y14 y15 y16 y17 y18 y19 y20 y21 y22 y23 y24 y25 y26 y27 y28 y29 y30 y31 y32 y33 y34 y35 y36 y37 y38 y39 y40 y41 y42 y43 y44 y45 y46 y47 y48 y49 y50 y51 y52 y53 y54 y55 y56 y57 y58 y59 y60 y61 y62 y63 y64 y65 y66 y67 y68 y69 y70 y71 y72 y73 y74 y75 y76 y77 y78 y79 y80 y81 y82 y83 y84 y85 y86 y87 y88 y89 y90 y91 y92 y93 y94 y95 y96 y97 y98 y99 y100 y101 y102 y103 y104 y105 y106 y107 y108 y109 y110 y111 y112 y113 y114 y115 y116 y117 y118 y119 y120 y121 y124 y125 y126 y127 y128 y129 y130 y131 y132 y133 y134 y135 y136 y137 y138 y139 y140 : Value) : (Nat -> Bool) -> Act -> World -> Prop := fun L a W => ∃ x122 x123 x9, a = ⟨#[y0, y1, y2, y3, y4, y5, y6, y7, y8, x9, y10, y11, y12, y13, y14, y15, y16, y17, y18, y19, y20, y21, y22, y23, y24, y25, y26, y27, y28, y29, y30, y31, y32, y33, y34, y35, y36, y37, y38, y39, y40, y41, y42, y43, y44, y45, y46, y47, y48, y49, y50, y51, y52, y53, y54, y55, y56, y57, y58, y59, y60, y61, y62, y63, y64, y65, y66, y67, y68, y69, y70, y71, y72, y73, y74, y75, y76, y77, y78, y79, y80, y81, y82, y83, y84, y85, y86, y87, y88, y89, y90, y91, y92, y93, y94, y95, y96, y97, y98, y99, y100, y101, y102, y103, y104, y105, y106, y107, y108, y109, y110, y111, y112, y113, y114, y115, y116, y117, y118, y119, y120, y121, x122, x123, y124, y125, y126, y127, y128, y129, y130, y131, y132, y133, y134, y135, y136, y137, y138, y139, y140], []⟩ /\ PT20 W1 c gE L x122 x123 x9 W
structure PT16A (W1 : World) (G gx hv nn aft bef ff : Nat) (lo : Option Addr) (ln lc : Nat) (Y : List Value) (bb : Bool) (L : Nat -> Bool) (x71 x72 x73 x74 x75 x76 x77 x78 x79 x80 x81 x82 x83 x84 x85 x86 x87 x88 x89 x90 x91 x92 x93 x94 x95 x96 x97 x98 x99 x100 x101 x102 x103 x104 x105 x106 x107 x108 x109 x110 : Value) (W : World) : Prop where
  x : Below W1.heap.size W1 W
  p0 : L 0 = true -> x71 = .pointer (some ⟨G, 2, none⟩)
  p1 : L 1 = true -> x72 = .int .i64 (nn : Int)
  p2 : L 2 = true -> x73 = .bool true
  p3 : L 3 = true -> x74 = .bool true
  p13 : L 13 = true -> x84 = .bool true
  p14 : L 14 = true -> x85 = .bool true
  p18 : L 18 = true -> x89 = undef
  p30 : L 30 = true -> x101 = .bool true
  p31 : L 31 = true -> x102 = .bool true
  p39 : L 39 = true -> x110 = .bool true
section
variable {W1 : World} {G gx hv nn aft bef ff : Nat} {lo : Option Addr} {ln lc : Nat} {Y : List Value} {bb : Bool} {L : Nat -> Bool} {x71 x72 x73 x74 x75 x76 x77 x78 x79 x80 x81 x82 x83 x84 x85 x86 x87 x88 x89 x90 x91 x92 x93 x94 x95 x96 x97 x98 x99 x100 x101 x102 x103 x104 x105 x106 x107 x108 x109 x110 : Value} {W W2 : World}
end
@[reducible] def IPT16A (W1 : World) (G gx hv nn aft bef ff : Nat) (lo : Option Addr) (ln lc : Nat) (Y : List Value) (bb : Bool) (y0 y1 y2 y3 y4 y5 y6 y7 y8 y9 y10 y11 y12 y13 y14 y15 y16 y17 y18 y19 y20 y21 y22 y23 y24 y25 y26 y27 y28 y29 y30 y31 y32 y33 y34 y35 y36 y37 y38 y39 y40 y41 y42 y43 y44 y45 y46 y47 y48 y49 y50 y51 y52 y53 y54 y55 y56 y57 y58 y59 y60 y61 y62 y63 y64 y65 y66 y67 y68 y69 y70 y111 y112 y113 y114 y115 y116 y117 y118 y119 y120 y121 y122 y123 y124 y125 y126 y127 y128 y129 y130 y131 y132 y133 y134 y135 y136 y137 y138 y139 y140 : Value) : (Nat -> Bool) -> Act -> World -> Prop := fun L a W => ∃ x71 x72 x73 x74 x75 x76 x77 x78 x79 x80 x81 x82 x83 x84 x85 x86 x87 x88 x89 x90 x91 x92 x93 x94 x95 x96 x97 x98 x99 x100 x101 x102 x103 x104 x105 x106 x107 x108 x109 x110, a = ⟨#[y0, y1, y2, y3, y4, y5, y6, y7, y8, y9, y10, y11, y12, y13, y14, y15, y16, y17, y18, y19, y20, y21, y22, y23, y24, y25, y26, y27, y28, y29, y30, y31, y32, y33, y34, y35, y36, y37, y38, y39, y40, y41, y42, y43, y44, y45, y46, y47, y48, y49, y50, y51, y52, y53, y54, y55, y56, y57, y58, y59, y60, y61, y62, y63, y64, y65, y66, y67, y68, y69, y70, x71, x72, x73, x74, x75, x76, x77, x78, x79, x80, x81, x82, x83, x84, x85, x86, x87, x88, x89, x90, x91, x92, x93, x94, x95, x96, x97, x98, x99, x100, x101, x102, x103, x104, x105, x106, x107, x108, x109, x110, y111, y112, y113, y114, y115, y116, y117, y118, y119, y120, y121, y122, y123, y124, y125, y126, y127, y128, y129, y130, y131, y132, y133, y134, y135, y136, y137, y138, y139, y140], []⟩ /\ PT16A W1 G gx hv nn aft bef ff lo ln lc Y bb L x71 x72 x73 x74 x75 x76 x77 x78 x79 x80 x81 x82 x83 x84 x85 x86 x87 x88 x89 x90 x91 x92 x93 x94 x95 x96 x97 x98 x99 x100 x101 x102 x103 x104 x105 x106 x107 x108 x109 x110 W
theorem PT16A.step {W1 : World} {G gx hv nn aft bef ff : Nat} {lo : Option Addr} {ln lc : Nat} {Y : List Value} {bb : Bool} {y0 y1 y2 y3 y4 y5 y6 y7 y8 y9 y10 y11 y12 y13 y14 y15 y16 y17 y18 y19 y20 y21 y22 y23 y24 y25 y26 y27 y28 y29 y30 y31 y32 y33 y34 y35 y36 y37 y38 y39 y40 y41 y42 y43 y44 y45 y46 y47 y48 y49 y50 y51 y52 y53 y54 y55 y56 y57 y58 y59 y60 y61 y62 y63 y64 y65 y66 y67 y68 y69 y70 y111 y112 y113 y114 y115 y116 y117 y118 y119 y120 y121 y122 y123 y124 y125 y126 y127 y128 y129 y130 y131 y132 y133 y134 y135 y136 y137 y138 y139 y140 : Value} {P : Program} {ops : Array Oper} {Q : Exit -> Act -> World -> Prop} {i : Nat} {o : Oper} (hq : ∀ x71 x72 x73 x74 x75 x76 x77 x78 x79 x80 x81 x82 x83 x84 x85 x86 x87 x88 x89 x90 x91 x92 x93 x94 x95 x96 x97 x98 x99 x100 x101 x102 x103 x104 x105 x106 x107 x108 x109 x110 (L : Nat -> Bool) (W : World), PT16A W1 G gx hv nn aft bef ff lo ln lc Y bb L x71 x72 x73 x74 x75 x76 x77 x78 x79 x80 x81 x82 x83 x84 x85 x86 x87 x88 x89 x90 x91 x92 x93 x94 x95 x96 x97 x98 x99 x100 x101 x102 x103 x104 x105 x106 x107 x108 x109 x110 W -> L i = false -> (∀ j ∈ onesOf o, L j = true) -> ∀ K : Act -> World -> Prop, Shut (∀ a' w', IPT16A W1 G gx hv nn aft bef ff lo ln lc Y bb y0 y1 y2 y3 y4 y5 y6 y7 y8 y9 y10 y11 y12 y13 y14 y15 y16 y17 y18 y19 y20 y21 y22 y23 y24 y25 y26 y27 y28 y29 y30 y31 y32 y33 y34 y35 y36 y37 y38 y39 y40 y41 y42 y43 y44 y45 y46 y47 y48 y49 y50 y51 y52 y53 y54 y55 y56 y57 y58 y59 y60 y61 y62 y63 y64 y65 y66 y67 y68 y69 y70 y111 y112 y113 y114 y115 y116 y117 y118 y119 y120 y121 y122 y123 y124 y125 y126 y127 y128 y129 y130 y131 y132 y133 y134 y135 y136 y137 y138 y139 y140 (upd L i) a' w' -> K a' w') -> if Region.wanted o (yielded ops (⟨#[y0, y1, y2, y3, y4, y5, y6, y7, y8, y9, y10, y11, y12, y13, y14, y15, y16, y17, y18, y19, y20, y21, y22, y23, y24, y25, y26, y27, y28, y29, y30, y31, y32, y33, y34, y35, y36, y37, y38, y39, y40, y41, y42, y43, y44, y45, y46, y47, y48, y49, y50, y51, y52, y53, y54, y55, y56, y57, y58, y59, y60, y61, y62, y63, y64, y65, y66, y67, y68, y69, y70, x71, x72, x73, x74, x75, x76, x77, x78, x79, x80, x81, x82, x83, x84, x85, x86, x87, x88, x89, x90, x91, x92, x93, x94, x95, x96, x97, x98, x99, x100, x101, x102, x103, x104, x105, x106, x107, x108, x109, x110, y111, y112, y113, y114, y115, y116, y117, y118, y119, y120, y121, y122, y123, y124, y125, y126, y127, y128, y129, y130, y131, y132, y133, y134, y135, y136, y137, y138, y139, y140], []⟩ : Act).tmps) = true then Oper.wp P o ⟨#[y0, y1, y2, y3, y4, y5, y6, y7, y8, y9, y10, y11, y12, y13, y14, y15, y16, y17, y18, y19, y20, y21, y22, y23, y24, y25, y26, y27, y28, y29, y30, y31, y32, y33, y34, y35, y36, y37, y38, y39, y40, y41, y42, y43, y44, y45, y46, y47, y48, y49, y50, y51, y52, y53, y54, y55, y56, y57, y58, y59, y60, y61, y62, y63, y64, y65, y66, y67, y68, y69, y70, x71, x72, x73, x74, x75, x76, x77, x78, x79, x80, x81, x82, x83, x84, x85, x86, x87, x88, x89, x90, x91, x92, x93, x94, x95, x96, x97, x98, x99, x100, x101, x102, x103, x104, x105, x106, x107, x108, x109, x110, y111, y112, y113, y114, y115, y116, y117, y118, y119, y120, y121, y122, y123, y124, y125, y126, y127, y128, y129, y130, y131, y132, y133, y134, y135, y136, y137, y138, y139, y140], []⟩ W K Q else K ((⟨#[y0, y1, y2, y3, y4, y5, y6, y7, y8, y9, y10, y11, y12, y13, y14, y15, y16, y17, y18, y19, y20, y21, y22, y23, y24, y25, y26, y27, y28, y29, y30, y31, y32, y33, y34, y35, y36, y37, y38, y39, y40, y41, y42, y43, y44, y45, y46, y47, y48, y49, y50, y51, y52, y53, y54, y55, y56, y57, y58, y59, y60, y61, y62, y63, y64, y65, y66, y67, y68, y69, y70, x71, x72, x73, x74, x75, x76, x77, x78, x79, x80, x81, x82, x83, x84, x85, x86, x87, x88, x89, x90, x91, x92, x93, x94, x95, x96, x97, x98, x99, x100, x101, x102, x103, x104, x105, x106, x107, x108, x109, x110, y111, y112, y113, y114, y115, y116, y117, y118, y119, y120, y121, y122, y123, y124, y125, y126, y127, y128, y129, y130, y131, y132, y133, y134, y135, y136, y137, y138, y139, y140], []⟩ : Act).put o.dst undef) W) : StepI P ops (IPT16A W1 G gx hv nn aft bef ff lo ln lc Y bb y0 y1 y2 y3 y4 y5 y6 y7 y8 y9 y10 y11 y12 y13 y14 y15 y16 y17 y18 y19 y20 y21 y22 y23 y24 y25 y26 y27 y28 y29 y30 y31 y32 y33 y34 y35 y36 y37 y38 y39 y40 y41 y42 y43 y44 y45 y46 y47 y48 y49 y50 y51 y52 y53 y54 y55 y56 y57 y58 y59 y60 y61 y62 y63 y64 y65 y66 y67 y68 y69 y70 y111 y112 y113 y114 y115 y116 y117 y118 y119 y120 y121 y122 y123 y124 y125 y126 y127 y128 y129 y130 y131 y132 y133 y134 y135 y136 y137 y138 y139 y140) Q i o := by
  rintro L a W ⟨x71, x72, x73, x74, x75, x76, x77, x78, x79, x80, x81, x82, x83, x84, x85, x86, x87, x88, x89, x90, x91, x92, x93, x94, x95, x96, x97, x98, x99, x100, x101, x102, x103, x104, x105, x106, x107, x108, x109, x110, rfl, h⟩
  exact hq _ _ _ _ _ _ _ _ _ _ _ _ _ _ _ _ _ _ _ _ _ _ _ _ _ _ _ _ _ _ _ _ _ _ _ _ _ _ _ _ _ _ h
structure PT16B (W1 : World) (G gx hv nn aft bef ff : Nat) (lo : Option Addr) (ln lc : Nat) (Y : List Value) (bb : Bool) (L : Nat -> Bool) (x71 x72 x73 x74 x75 x76 x77 x78 x79 x80 x81 x82 x83 x84 x85 x86 x87 x88 x89 x90 x91 x92 x93 x94 x95 x96 x97 x98 x99 x100 x101 x102 x103 x104 x105 x106 x107 x108 x109 x110 : Value) (W : World) : Prop where
  x : Below W1.heap.size W1 W
  p0 : L 0 = true -> x71 = .pointer (some ⟨G, 2, none⟩)
  p1 : L 1 = true -> x72 = .int .i64 (nn : Int)
  p2 : L 2 = true -> x73 = .bool false
  p3 : L 3 = true -> x74 = .bool false
  p4 : L 4 = true -> x75 = .int .i64 (hv : Int)
  p5 : L 5 = true -> x76 = .pointer (some ⟨G, 2, none⟩)
  p6 : L 6 = true -> x77 = .int .i64 (nn : Int)
  p7 : L 7 = true -> x78 = .int .i64 ((hv : Int) + (nn : Int))
  p8 : L 8 = true -> x79 = .pointer (some ⟨gx, 0, none⟩)
  p9 : L 9 = true -> x80 = .pointer (some ⟨gx, 0, none⟩)
  p10 : L 10 = true -> x81 = .pointer (some ⟨gx, 65, none⟩)
  p11 : L 11 = true -> x82 = .int .i64 (aft : Int)
  p12 : L 12 = true -> x83 = .bool true
  p13 : L 13 = true -> x84 = .bool true
  p14 : L 14 = true -> x85 = .bool true
  p18 : L 18 = true -> x89 = undef
  p30 : L 30 = true -> x101 = .bool true
  p31 : L 31 = true -> x102 = .bool true
  p39 : L 39 = true -> x110 = .bool true
section
variable {W1 : World} {G gx hv nn aft bef ff : Nat} {lo : Option Addr} {ln lc : Nat} {Y : List Value} {bb : Bool} {L : Nat -> Bool} {x71 x72 x73 x74 x75 x76 x77 x78 x79 x80 x81 x82 x83 x84 x85 x86 x87 x88 x89 x90 x91 x92 x93 x94 x95 x96 x97 x98 x99 x100 x101 x102 x103 x104 x105 x106 x107 x108 x109 x110 : Value} {W W2 : World}
end
@[reducible] def IPT16B (W1 : World) (G gx hv nn aft bef ff : Nat) (lo : Option Addr) (ln lc : Nat) (Y : List Value) (bb : Bool) (y0 y1 y2 y3 y4 y5 y6 y7 y8 y9 y10 y11 y12 y13 y14 y15 y16 y17 y18 y19 y20 y21 y22 y23 y24 y25 y26 y27 y28 y29 y30 y31 y32 y33 y34 y35 y36 y37 y38 y39 y40 y41 y42 y43 y44 y45 y46 y47 y48 y49 y50 y51 y52 y53 y54 y55 y56 y57 y58 y59 y60 y61 y62 y63 y64 y65 y66 y67 y68 y69 y70 y111 y112 y113 y114 y115 y116 y117 y118 y119 y120 y121 y122 y123 y124 y125 y126 y127 y128 y129 y130 y131 y132 y133 y134 y135 y136 y137 y138 y139 y140 : Value) : (Nat -> Bool) -> Act -> World -> Prop := fun L a W => ∃ x71 x72 x73 x74 x75 x76 x77 x78 x79 x80 x81 x82 x83 x84 x85 x86 x87 x88 x89 x90 x91 x92 x93 x94 x95 x96 x97 x98 x99 x100 x101 x102 x103 x104 x105 x106 x107 x108 x109 x110, a = ⟨#[y0, y1, y2, y3, y4, y5, y6, y7, y8, y9, y10, y11, y12, y13, y14, y15, y16, y17, y18, y19, y20, y21, y22, y23, y24, y25, y26, y27, y28, y29, y30, y31, y32, y33, y34, y35, y36, y37, y38, y39, y40, y41, y42, y43, y44, y45, y46, y47, y48, y49, y50, y51, y52, y53, y54, y55, y56, y57, y58, y59, y60, y61, y62, y63, y64, y65, y66, y67, y68, y69, y70, x71, x72, x73, x74, x75, x76, x77, x78, x79, x80, x81, x82, x83, x84, x85, x86, x87, x88, x89, x90, x91, x92, x93, x94, x95, x96, x97, x98, x99, x100, x101, x102, x103, x104, x105, x106, x107, x108, x109, x110, y111, y112, y113, y114, y115, y116, y117, y118, y119, y120, y121, y122, y123, y124, y125, y126, y127, y128, y129, y130, y131, y132, y133, y134, y135, y136, y137, y138, y139, y140], []⟩ /\ PT16B W1 G gx hv nn aft bef ff lo ln lc Y bb L x71 x72 x73 x74 x75 x76 x77 x78 x79 x80 x81 x82 x83 x84 x85 x86 x87 x88 x89 x90 x91 x92 x93 x94 x95 x96 x97 x98 x99 x100 x101 x102 x103 x104 x105 x106 x107 x108 x109 x110 W
theorem PT16B.step {W1 : World} {G gx hv nn aft bef ff : Nat} {lo : Option Addr} {ln lc : Nat} {Y : List Value} {bb : Bool} {y0 y1 y2 y3 y4 y5 y6 y7 y8 y9 y10 y11 y12 y13 y14 y15 y16 y17 y18 y19 y20 y21 y22 y23 y24 y25 y26 y27 y28 y29 y30 y31 y32 y33 y34 y35 y36 y37 y38 y39 y40 y41 y42 y43 y44 y45 y46 y47 y48 y49 y50 y51 y52 y53 y54 y55 y56 y57 y58 y59 y60 y61 y62 y63 y64 y65 y66 y67 y68 y69 y70 y111 y112 y113 y114 y115 y116 y117 y118 y119 y120 y121 y122 y123 y124 y125 y126 y127 y128 y129 y130 y131 y132 y133 y134 y135 y136 y137 y138 y139 y140 : Value} {P : Program} {ops : Array Oper} {Q : Exit -> Act -> World -> Prop} {i : Nat} {o : Oper} (hq : ∀ x71 x72 x73 x74 x75 x76 x77 x78 x79 x80 x81 x82 x83 x84 x85 x86 x87 x88 x89 x90 x91 x92 x93 x94 x95 x96 x97 x98 x99 x100 x101 x102 x103 x104 x105 x106 x107 x108 x109 x110 (L : Nat -> Bool) (W : World), PT16B W1 G gx hv nn aft bef ff lo ln lc Y bb L x71 x72 x73 x74 x75 x76 x77 x78 x79 x80 x81 x82 x83 x84 x85 x86 x87 x88 x89 x90 x91 x92 x93 x94 x95 x96 x97 x98 x99 x100 x101 x102 x103 x104 x105 x106 x107 x108 x109 x110 W -> L i = false -> (∀ j ∈ onesOf o, L j = true) -> ∀ K : Act -> World -> Prop, Shut (∀ a' w', IPT16B W1 G gx hv nn aft bef ff lo ln lc Y bb y0 y1 y2 y3 y4 y5 y6 y7 y8 y9 y10 y11 y12 y13 y14 y15 y16 y17 y18 y19 y20 y21 y22 y23 y24 y25 y26 y27 y28 y29 y30 y31 y32 y33 y34 y35 y36 y37 y38 y39 y40 y41 y42 y43 y44 y45 y46 y47 y48 y49 y50 y51 y52 y53 y54 y55 y56 y57 y58 y59 y60 y61 y62 y63 y64 y65 y66 y67 y68 y69 y70 y111 y112 y113 y114 y115 y116 y117 y118 y119 y120 y121 y122 y123 y124 y125 y126 y127 y128 y129 y130 y131 y132 y133 y134 y135 y136 y137 y138 y139 y140 (upd L i) a' w' -> K a' w') -> if Region.wanted o (yielded ops (⟨#[y0, y1, y2, y3, y4, y5, y6, y7, y8, y9, y10, y11, y12, y13, y14, y15, y16, y17, y18, y19, y20, y21, y22, y23, y24, y25, y26, y27, y28, y29, y30, y31, y32, y33, y34, y35, y36, y37, y38, y39, y40, y41, y42, y43, y44, y45, y46, y47, y48, y49, y50, y51, y52, y53, y54, y55, y56, y57, y58, y59, y60, y61, y62, y63, y64, y65, y66, y67, y68, y69, y70, x71, x72, x73, x74, x75, x76, x77, x78, x79, x80, x81, x82, x83, x84, x85, x86, x87, x88, x89, x90, x91, x92, x93, x94, x95, x96, x97, x98, x99, x100, x101, x102, x103, x104, x105, x106, x107, x108, x109, x110, y111, y112, y113, y114, y115, y116, y117, y118, y119, y120, y121, y122, y123, y124, y125, y126, y127, y128, y129, y130, y131, y132, y133, y134, y135, y136, y137, y138, y139, y140], []⟩ : Act).tmps) = true then Oper.wp P o ⟨#[y0, y1, y2, y3, y4, y5, y6, y7, y8, y9, y10, y11, y12, y13, y14, y15, y16, y17, y18, y19, y20, y21, y22, y23, y24, y25, y26, y27, y28, y29, y30, y31, y32, y33, y34, y35, y36, y37, y38, y39, y40, y41, y42, y43, y44, y45, y46, y47, y48, y49, y50, y51, y52, y53, y54, y55, y56, y57, y58, y59, y60, y61, y62, y63, y64, y65, y66, y67, y68, y69, y70, x71, x72, x73, x74, x75, x76, x77, x78, x79, x80, x81, x82, x83, x84, x85, x86, x87, x88, x89, x90, x91, x92, x93, x94, x95, x96, x97, x98, x99, x100, x101, x102, x103, x104, x105, x106, x107, x108, x109, x110, y111, y112, y113, y114, y115, y116, y117, y118, y119, y120, y121, y122, y123, y124, y125, y126, y127, y128, y129, y130, y131, y132, y133, y134, y135, y136, y137, y138, y139, y140], []⟩ W K Q else K ((⟨#[y0, y1, y2, y3, y4, y5, y6, y7, y8, y9, y10, y11, y12, y13, y14, y15, y16, y17, y18, y19, y20, y21, y22, y23, y24, y25, y26, y27, y28, y29, y30, y31, y32, y33, y34, y35, y36, y37, y38, y39, y40, y41, y42, y43, y44, y45, y46, y47, y48, y49, y50, y51, y52, y53, y54, y55, y56, y57, y58, y59, y60, y61, y62, y63, y64, y65, y66, y67, y68, y69, y70, x71, x72, x73, x74, x75, x76, x77, x78, x79, x80, x81, x82, x83, x84, x85, x86, x87, x88, x89, x90, x91, x92, x93, x94, x95, x96, x97, x98, x99, x100, x101, x102, x103, x104, x105, x106, x107, x108, x109, x110, y111, y112, y113, y114, y115, y116, y117, y118, y119, y120, y121, y122, y123, y124, y125, y126, y127, y128, y129, y130, y131, y132, y133, y134, y135, y136, y137, y138, y139, y140], []⟩ : Act).put o.dst undef) W) : StepI P ops (IPT16B W1 G gx hv nn aft bef ff lo ln lc Y bb y0 y1 y2 y3 y4 y5 y6 y7 y8 y9 y10 y11 y12 y13 y14 y15 y16 y17 y18 y19 y20 y21 y22 y23 y24 y25 y26 y27 y28 y29 y30 y31 y32 y33 y34 y35 y36 y37 y38 y39 y40 y41 y42 y43 y44 y45 y46 y47 y48 y49 y50 y51 y52 y53 y54 y55 y56 y57 y58 y59 y60 y61 y62 y63 y64 y65 y66 y67 y68 y69 y70 y111 y112 y113 y114 y115 y116 y117 y118 y119 y120 y121 y122 y123 y124 y125 y126 y127 y128 y129 y130 y131 y132 y133 y134 y135 y136 y137 y138 y139 y140) Q i o := by
  rintro L a W ⟨x71, x72, x73, x74, x75, x76, x77, x78, x79, x80, x81, x82, x83, x84, x85, x86, x87, x88, x89, x90, x91, x92, x93, x94, x95, x96, x97, x98, x99, x100, x101, x102, x103, x104, x105, x106, x107, x108, x109, x110, rfl, h⟩
  exact hq _ _ _ _ _ _ _ _ _ _ _ _ _ _ _ _ _ _ _ _ _ _ _ _ _ _ _ _ _ _ _ _ _ _ _ _ _ _ _ _ _ _ h
structure PT16C (W1 : World) (G gx hv nn aft bef ff : Nat) (lo : Option Addr) (ln lc : Nat) (Y : List Value) (bb : Bool) (L : Nat -> Bool) (x71 x72 x73 x74 x75 x76 x77 x78 x79 x80 x81 x82 x83 x84 x85 x86 x87 x88 x89 x90 x91 x92 x93 x94 x95 x96 x97 x98 x99 x100 x101 x102 x103 x104 x105 x106 x107 x108 x109 x110 : Value) (W : World) : Prop where
  x : Below W1.heap.size W1 W
  p0 : L 0 = true -> x71 = .pointer (some ⟨G, 2, none⟩)
  p1 : L 1 = true -> x72 = .int .i64 (nn : Int)
  p2 : L 2 = true -> x73 = .bool false
  p3 : L 3 = true -> x74 = .bool false
  p4 : L 4 = true -> x75 = .int .i64 (hv : Int)
  p5 : L 5 = true -> x76 = .pointer (some ⟨G, 2, none⟩)
  p6 : L 6 = true -> x77 = .int .i64 (nn : Int)
  p7 : L 7 = true -> x78 = .int .i64 ((hv : Int) + (nn : Int))
  p8 : L 8 = true -> x79 = .pointer (some ⟨gx, 0, none⟩)
  p9 : L 9 = true -> x80 = .pointer (some ⟨gx, 0, none⟩)
  p10 : L 10 = true -> x81 = .pointer (some ⟨gx, 65, none⟩)
  p11 : L 11 = true -> x82 = .int .i64 (aft : Int)
  p12 : L 12 = true -> x83 = .bool false
  p13 : L 13 = true -> x84 = .bool false
  p14 : L 14 = true -> x85 = .bool false
  p15 : L 15 = true -> x86 = .pointer (some ⟨G, 0, none⟩)
  p16 : L 16 = true -> x87 = .bool true
  p17 : L 17 = true -> x88 = .bool false
  p18 : L 18 = true -> x89 = .bool false
  p29 : L 29 = true -> x100 = .bool false
  p30 : L 30 = true -> x101 = .bool false
  p31 : L 31 = true -> x102 = .bool false
  p32 : L 32 = true -> x103 = .pointer (some ⟨gx, 0, none⟩)
  p33 : L 33 = true -> x104 = .pointer (some ⟨gx, 0, none⟩)
  p34 : L 34 = true -> x105 = .pointer (some ⟨gx, 66, none⟩)
  p35 : L 35 = true -> x106 = .slice lo ln lc
  p36 : L 36 = true -> x107 = .agg Y.toArray
  p37 : L 37 = true -> x108 = .bool bb
  p38 : L 38 = true -> x109 = .bool (!bb)
  p39 : L 39 = true -> x110 = .bool (!bb)
section
variable {W1 : World} {G gx hv nn aft bef ff : Nat} {lo : Option Addr} {ln lc : Nat} {Y : List Value} {bb : Bool} {L : Nat -> Bool} {x71 x72 x73 x74 x75 x76 x77 x78 x79 x80 x81 x82 x83 x84 x85 x86 x87 x88 x89 x90 x91 x92 x93 x94 x95 x96 x97 x98 x99 x100 x101 x102 x103 x104 x105 x106 x107 x108 x109 x110 : Value} {W W2 : World}
end
@[reducible] def IPT16C (W1 : World) (G gx hv nn aft bef ff : Nat) (lo : Option Addr) (ln lc : Nat) (Y : List Value) (bb : Bool) (y0 y1 y2 y3 y4 y5 y6 y7 y8 y9 y10 y11 y12 y13 y14 y15 y16 y17 y18 y19 y20 y21 y22 y23 y24 y25 y26 y27 y28 y29 y30 y31 y32 y33 y34 y35 y36 y37 y38 y39 y40 y41 y42 y43 y44 y45 y46 y47 y48 y49 y50 y51 y52 y53 y54 y55 y56 y57 y58 y59 y60 y61 y62 y63 y64 y65 y66 y67 y68 y69 y70 y111 y112 y113 y114 y115 y116 y117 y118 y119 y120 y121 y122 y123 y124 y125 y126 y127 y128 y129 y130 y131 y132 y133 y134 y135 y136 y137 y138 y139 y140 : Value) : (Nat -> Bool) -> Act -> World -> Prop := fun L a W => ∃ x71 x72 x73 x74 x75 x76 x77 x78 x79 x80 x81 x82 x83 x84 x85 x86 x87 x88 x89 x90 x91 x92 x93 x94 x95 x96 x97 x98 x99 x100 x101 x102 x103 x104 x105 x106 x107 x108 x109 x110, a = ⟨#[y0, y1, y2, y3, y4, y5, y6, y7, y8, y9, y10, y11, y12, y13, y14, y15, y16, y17, y18, y19, y20, y21, y22, y23, y24, y25, y26, y27, y28, y29, y30, y31, y32, y33, y34, y35, y36, y37, y38, y39, y40, y41, y42, y43, y44, y45, y46, y47, y48, y49, y50, y51, y52, y53, y54, y55, y56, y57, y58, y59, y60, y61, y62, y63, y64, y65, y66, y67, y68, y69, y70, x71, x72, x73, x74, x75, x76, x77, x78, x79, x80, x81, x82, x83, x84, x85, x86, x87, x88, x89, x90, x91, x92, x93, x94, x95, x96, x97, x98, x99, x100, x101, x102, x103, x104, x105, x106, x107, x108, x109, x110, y111, y112, y113, y114, y115, y116, y117, y118, y119, y120, y121, y122, y123, y124, y125, y126, y127, y128, y129, y130, y131, y132, y133, y134, y135, y136, y137, y138, y139, y140], []⟩ /\ PT16C W1 G gx hv nn aft bef ff lo ln lc Y bb L x71 x72 x73 x74 x75 x76 x77 x78 x79 x80 x81 x82 x83 x84 x85 x86 x87 x88 x89 x90 x91 x92 x93 x94 x95 x96 x97 x98 x99 x100 x101 x102 x103 x104 x105 x106 x107 x108 x109 x110 W
theorem PT16C.step {W1 : World} {G gx hv nn aft bef ff : Nat} {lo : Option Addr} {ln lc : Nat} {Y : List Value} {bb : Bool} {y0 y1 y2 y3 y4 y5 y6 y7 y8 y9 y10 y11 y12 y13 y14 y15 y16 y17 y18 y19 y20 y21 y22 y23 y24 y25 y26 y27 y28 y29 y30 y31 y32 y33 y34 y35 y36 y37 y38 y39 y40 y41 y42 y43 y44 y45 y46 y47 y48 y49 y50 y51 y52 y53 y54 y55 y56 y57 y58 y59 y60 y61 y62 y63 y64 y65 y66 y67 y68 y69 y70 y111 y112 y113 y114 y115 y116 y117 y118 y119 y120 y121 y122 y123 y124 y125 y126 y127 y128 y129 y130 y131 y132 y133 y134 y135 y136 y137 y138 y139 y140 : Value} {P : Program} {ops : Array Oper} {Q : Exit -> Act -> World -> Prop} {i : Nat} {o : Oper} (hq : ∀ x71 x72 x73 x74 x75 x76 x77 x78 x79 x80 x81 x82 x83 x84 x85 x86 x87 x88 x89 x90 x91 x92 x93 x94 x95 x96 x97 x98 x99 x100 x101 x102 x103 x104 x105 x106 x107 x108 x109 x110 (L : Nat -> Bool) (W : World), PT16C W1 G gx hv nn aft bef ff lo ln lc Y bb L x71 x72 x73 x74 x75 x76 x77 x78 x79 x80 x81 x82 x83 x84 x85 x86 x87 x88 x89 x90 x91 x92 x93 x94 x95 x96 x97 x98 x99 x100 x101 x102 x103 x104 x105 x106 x107 x108 x109 x110 W -> L i = false -> (∀ j ∈ onesOf o, L j = true) -> ∀ K : Act -> World -> Prop, Shut (∀ a' w', IPT16C W1 G gx hv nn aft bef ff lo ln lc Y bb y0 y1 y2 y3 y4 y5 y6 y7 y8 y9 y10 y11 y12 y13 y14 y15 y16 y17 y18 y19 y20 y21 y22 y23 y24 y25 y26 y27 y28 y29 y30 y31 y32 y33 y34 y35 y36 y37 y38 y39 y40 y41 y42 y43 y44 y45 y46 y47 y48 y49 y50 y51 y52 y53 y54 y55 y56 y57 y58 y59 y60 y61 y62 y63 y64 y65 y66 y67 y68 y69 y70 y111 y112 y113 y114 y115 y116 y117 y118 y119 y120 y121 y122 y123 y124 y125 y126 y127 y128 y129 y130 y131 y132 y133 y134 y135 y136 y137 y138 y139 y140 (upd L i) a' w' -> K a' w') -> if Region.wanted o (yielded ops (⟨#[y0, y1, y2, y3, y4, y5, y6, y7, y8, y9, y10, y11, y12, y13, y14, y15, y16, y17, y18, y19, y20, y21, y22, y23, y24, y25, y26, y27, y28, y29, y30, y31, y32, y33, y34, y35, y36, y37, y38, y39, y40, y41, y42, y43, y44, y45, y46, y47, y48, y49, y50, y51, y52, y53, y54, y55, y56, y57, y58, y59, y60, y61, y62, y63, y64, y65, y66, y67, y68, y69, y70, x71, x72, x73, x74, x75, x76, x77, x78, x79, x80, x81, x82, x83, x84, x85, x86, x87, x88, x89, x90, x91, x92, x93, x94, x95, x96, x97, x98, x99, x100, x101, x102, x103, x104, x105, x106, x107, x108, x109, x110, y111, y112, y113, y114, y115, y116, y117, y118, y119, y120, y121, y122, y123, y124, y125, y126, y127, y128, y129, y130, y131, y132, y133, y134, y135, y136, y137, y138, y139, y140], []⟩ : Act).tmps) = true then Oper.wp P o ⟨#[y0, y1, y2, y3, y4, y5, y6, y7, y8, y9, y10, y11, y12, y13, y14, y15, y16, y17, y18, y19, y20, y21, y22, y23, y24, y25, y26, y27, y28, y29, y30, y31, y32, y33, y34, y35, y36, y37, y38, y39, y40, y41, y42, y43, y44, y45, y46, y47, y48, y49, y50, y51, y52, y53, y54, y55, y56, y57, y58, y59, y60, y61, y62, y63, y64, y65, y66, y67, y68, y69, y70, x71, x72, x73, x74, x75, x76, x77, x78, x79, x80, x81, x82, x83, x84, x85, x86, x87, x88, x89, x90, x91, x92, x93, x94, x95, x96, x97, x98, x99, x100, x101, x102, x103, x104, x105, x106, x107, x108, x109, x110, y111, y112, y113, y114, y115, y116, y117, y118, y119, y120, y121, y122, y123, y124, y125, y126, y127, y128, y129, y130, y131, y132, y133, y134, y135, y136, y137, y138, y139, y140], []⟩ W K Q else K ((⟨#[y0, y1, y2, y3, y4, y5, y6, y7, y8, y9, y10, y11, y12, y13, y14, y15, y16, y17, y18, y19, y20, y21, y22, y23, y24, y25, y26, y27, y28, y29, y30, y31, y32, y33, y34, y35, y36, y37, y38, y39, y40, y41, y42, y43, y44, y45, y46, y47, y48, y49, y50, y51, y52, y53, y54, y55, y56, y57, y58, y59, y60, y61, y62, y63, y64, y65, y66, y67, y68, y69, y70, x71, x72, x73, x74, x75, x76, x77, x78, x79, x80, x81, x82, x83, x84, x85, x86, x87, x88, x89, x90, x91, x92, x93, x94, x95, x96, x97, x98, x99, x100, x101, x102, x103, x104, x105, x106, x107, x108, x109, x110, y111, y112, y113, y114, y115, y116, y117, y118, y119, y120, y121, y122, y123, y124, y125, y126, y127, y128, y129, y130, y131, y132, y133, y134, y135, y136, y137, y138, y139, y140], []⟩ : Act).put o.dst undef) W) : StepI P ops (IPT16C W1 G gx hv nn aft bef ff lo ln lc Y bb y0 y1 y2 y3 y4 y5 y6 y7 y8 y9 y10 y11 y12 y13 y14 y15 y16 y17 y18 y19 y20 y21 y22 y23 y24 y25 y26 y27 y28 y29 y30 y31 y32 y33 y34 y35 y36 y37 y38 y39 y40 y41 y42 y43 y44 y45 y46 y47 y48 y49 y50 y51 y52 y53 y54 y55 y56 y57 y58 y59 y60 y61 y62 y63 y64 y65 y66 y67 y68 y69 y70 y111 y112 y113 y114 y115 y116 y117 y118 y119 y120 y121 y122 y123 y124 y125 y126 y127 y128 y129 y130 y131 y132 y133 y134 y135 y136 y137 y138 y139 y140) Q i o := by
  rintro L a W ⟨x71, x72, x73, x74, x75, x76, x77, x78, x79, x80, x81, x82, x83, x84, x85, x86, x87, x88, x89, x90, x91, x92, x93, x94, x95, x96, x97, x98, x99, x100, x101, x102, x103, x104, x105, x106, x107, x108, x109, x110, rfl, h⟩
  exact hq _ _ _ _ _ _ _ _ _ _ _ _ _ _ _ _ _ _ _ _ _ _ _ _ _ _ _ _ _ _ _ _ _ _ _ _ _ _ _ _ _ _ h
structure PT16D (W1 : World) (G gx hv nn aft bef ff : Nat) (lo : Option Addr) (ln lc : Nat) (Y : List Value) (bb : Bool) (L : Nat -> Bool) (x71 x72 x73 x74 x75 x76 x77 x78 x79 x80 x81 x82 x83 x84 x85 x86 x87 x88 x89 x90 x91 x92 x93 x94 x95 x96 x97 x98 x99 x100 x101 x102 x103 x104 x105 x106 x107 x108 x109 x110 : Value) (W : World) : Prop where
  x : Below W1.heap.size W1 W
  p0 : L 0 = true -> x71 = .pointer (some ⟨G, 2, none⟩)
  p1 : L 1 = true -> x72 = .int .i64 (nn : Int)
  p2 : L 2 = true -> x73 = .bool false
  p3 : L 3 = true -> x74 = .bool false
  p4 : L 4 = true -> x75 = .int .i64 (hv : Int)
  p5 : L 5 = true -> x76 = .pointer (some ⟨G, 2, none⟩)
  p6 : L 6 = true -> x77 = .int .i64 (nn : Int)
  p7 : L 7 = true -> x78 = .int .i64 ((hv : Int) + (nn : Int))
  p8 : L 8 = true -> x79 = .pointer (some ⟨gx, 0, none⟩)
  p9 : L 9 = true -> x80 = .pointer (some ⟨gx, 0, none⟩)
  p10 : L 10 = true -> x81 = .pointer (some ⟨gx, 65, none⟩)
  p11 : L 11 = true -> x82 = .int .i64 (aft : Int)
  p12 : L 12 = true -> x83 = .bool false
  p13 : L 13 = true -> x84 = .bool false
  p14 : L 14 = true -> x85 = .bool false
  p15 : L 15 = true -> x86 = .pointer (some ⟨G, 0, none⟩)
  p16 : L 16 = true -> x87 = .bool false
  p17 : L 17 = true -> x88 = .bool true
  p18 : L 18 = true -> x89 = .bool true
  p19 : L 19 = true -> x90 = .pointer (some ⟨G, 1, none⟩)
  p20 : L 20 = true -> x91 = .int .i64 (ff : Int)
  p21 : L 21 = true -> x92 = .pointer (some ⟨G, 2, none⟩)
  p22 : L 22 = true -> x93 = .int .i64 (nn : Int)
  p23 : L 23 = true -> x94 = .int .i64 ((ff : Int) + (nn : Int))
  p24 : L 24 = true -> x95 = .pointer (some ⟨gx, 0, none⟩)
  p25 : L 25 = true -> x96 = .pointer (some ⟨gx, 0, none⟩)
  p26 : L 26 = true -> x97 = .pointer (some ⟨gx, 64, none⟩)
  p27 : L 27 = true -> x98 = .int .i64 (bef : Int)
  p28 : L 28 = true -> x99 = .bool true
  p29 : L 29 = true -> x100 = .bool true
  p30 : L 30 = true -> x101 = .bool true
  p31 : L 31 = true -> x102 = .bool true
  p39 : L 39 = true -> x110 = .bool true
section
variable {W1 : World} {G gx hv nn aft bef ff : Nat} {lo : Option Addr} {ln lc : Nat} {Y : List Value} {bb : Bool} {L : Nat -> Bool} {x71 x72 x73 x74 x75 x76 x77 x78 x79 x80 x81 x82 x83 x84 x85 x86 x87 x88 x89 x90 x91 x92 x93 x94 x95 x96 x97 x98 x99 x100 x101 x102 x103 x104 x105 x106 x107 x108 x109 x110 : Value} {W W2 : World}
end
@[reducible] def IPT16D (W1 : World) (G gx hv nn aft bef ff : Nat) (lo : Option Addr) (ln lc : Nat) (Y : List Value) (bb : Bool) (y0 y1 y2 y3 y4 y5 y6 y7 y8 y9 y10 y11 y12 y13 y14 y15 y16 y17 y18 y19 y20 y21 y22 y23 y24 y25 y26 y27 y28 y29 y30 y31 y32 y33 y34 y35 y36 y37 y38 y39 y40 y41 y42 y43 y44 y45 y46 y47 y48 y49 y50 y51 y52 y53 y54 y55 y56 y57 y58 y59 y60 y61 y62 y63 y64 y65 y66 y67 y68 y69 y70 y111 y112 y113 y114 y115 y116 y117 y118 y119 y120 y121 y122 y123 y124 y125 y126 y127 y128 y129 y130 y131 y132 y133 y134 y135 y136 y137 y138 y139 y140 : Value) : (Nat -> Bool) -> Act -> World -> Prop := fun L a W => ∃ x71 x72 x73 x74 x75 x76 x77 x78 x79 x80 x81 x82 x83 x84 x85 x86 x87 x88 x89 x90 x91 x92 x93 x94 x95 x96 x97 x98 x99 x100 x101 x102 x103 x104 x105 x106 x107 x108 x109 x110, a = ⟨#[y0, y1, y2, y3, y4, y5, y6, y7, y8, y9, y10, y11, y12, y13, y14, y15, y16, y17, y18, y19, y20, y21, y22, y23, y24, y25, y26, y27, y28, y29, y30, y31, y32, y33, y34, y35, y36, y37, y38, y39, y40, y41, y42, y43, y44, y45, y46, y47, y48, y49, y50, y51, y52, y53, y54, y55, y56, y57, y58, y59, y60, y61, y62, y63, y64, y65, y66, y67, y68, y69, y70, x71, x72, x73, x74, x75, x76, x77, x78, x79, x80, x81, x82, x83, x84, x85, x86, x87, x88, x89, x90, x91, x92, x93, x94, x95, x96, x97, x98, x99, x100, x101, x102, x103, x104, x105, x106, x107, x108, x109, x110, y111, y112, y113, y114, y115, y116, y117, y118, y119, y120, y121, y122, y123, y124, y125, y126, y127, y128, y129, y130, y131, y132, y133, y134, y135, y136, y137, y138, y139, y140], []⟩ /\ PT16D W1 G gx hv nn aft bef ff lo ln lc Y bb L x71 x72 x73 x74 x75 x76 x77 x78 x79 x80 x81 x82 x83 x84 x85 x86 x87 x88 x89 x90 x91 x92 x93 x94 x95 x96 x97 x98 x99 x100 x101 x102 x103 x104 x105 x106 x107 x108 x109 x110 W
theorem PT16D.step {W1 : World} {G gx hv nn aft bef ff : Nat} {lo : Option Addr} {ln lc : Nat} {Y : List Value} {bb : Bool} {y0 y1 y2 y3 y4 y5 y6 y7 y8 y9 y10 y11 y12 y13 y14 y15 y16 y17 y18 y19 y20 y21 y22 y23 y24 y25 y26 y27 y28 y29 y30 y31 y32 y33 y34 y35 y36 y37 y38 y39 y40 y41 y42 y43 y44 y45 y46 y47 y48 y49 y50 y51 y52 y53 y54 y55 y56 y57 y58 y59 y60 y61 y62 y63 y64 y65 y66 y67 y68 y69 y70 y111 y112 y113 y114 y115 y116 y117 y118 y119 y120 y121 y122 y123 y124 y125 y126 y127 y128 y129 y130 y131 y132 y133 y134 y135 y136 y137 y138 y139 y140 : Value} {P : Program} {ops : Array Oper} {Q : Exit -> Act -> World -> Prop} {i : Nat} {o : Oper} (hq : ∀ x71 x72 x73 x74 x75 x76 x77 x78 x79 x80 x81 x82 x83 x84 x85 x86 x87 x88 x89 x90 x91 x92 x93 x94 x95 x96 x97 x98 x99 x100 x101 x102 x103 x104 x105 x106 x107 x108 x109 x110 (L : Nat -> Bool) (W : World), PT16D W1 G gx hv nn aft bef ff lo ln lc Y bb L x71 x72 x73 x74 x75 x76 x77 x78 x79 x80 x81 x82 x83 x84 x85 x86 x87 x88 x89 x90 x91 x92 x93 x94 x95 x96 x97 x98 x99 x100 x101 x102 x103 x104 x105 x106 x107 x108 x109 x110 W -> L i = false -> (∀ j ∈ onesOf o, L j = true) -> ∀ K : Act -> World -> Prop, Shut (∀ a' w', IPT16D W1 G gx hv nn aft bef ff lo ln lc Y bb y0 y1 y2 y3 y4 y5 y6 y7 y8 y9 y10 y11 y12 y13 y14 y15 y16 y17 y18 y19 y20 y21 y22 y23 y24 y25 y26 y27 y28 y29 y30 y31 y32 y33 y34 y35 y36 y37 y38 y39 y40 y41 y42 y43 y44 y45 y46 y47 y48 y49 y50 y51 y52 y53 y54 y55 y56 y57 y58 y59 y60 y61 y62 y63 y64 y65 y66 y67 y68 y69 y70 y111 y112 y113 y114 y115 y116 y117 y118 y119 y120 y121 y122 y123 y124 y125 y126 y127 y128 y129 y130 y131 y132 y133 y134 y135 y136 y137 y138 y139 y140 (upd L i) a' w' -> K a' w') -> if Region.wanted o (yielded ops (⟨#[y0, y1, y2, y3, y4, y5, y6, y7, y8, y9, y10, y11, y12, y13, y14, y15, y16, y17, y18, y19, y20, y21, y22, y23, y24, y25, y26, y27, y28, y29, y30, y31, y32, y33, y34, y35, y36, y37, y38, y39, y40, y41, y42, y43, y44, y45, y46, y47, y48, y49, y50, y51, y52, y53, y54, y55, y56, y57, y58, y59, y60, y61, y62, y63, y64, y65, y66, y67, y68, y69, y70, x71, x72, x73, x74, x75, x76, x77, x78, x79, x80, x81, x82, x83, x84, x85, x86, x87, x88, x89, x90, x91, x92, x93, x94, x95, x96, x97, x98, x99, x100, x101, x102, x103, x104, x105, x106, x107, x108, x109, x110, y111, y112, y113, y114, y115, y116, y117, y118, y119, y120, y121, y122, y123, y124, y125, y126, y127, y128, y129, y130, y131, y132, y133, y134, y135, y136, y137, y138, y139, y140], []⟩ : Act).tmps) = true then Oper.wp P o ⟨#[y0, y1, y2, y3, y4, y5, y6, y7, y8, y9, y10, y11, y12, y13, y14, y15, y16, y17, y18, y19, y20, y21, y22, y23, y24, y25, y26, y27, y28, y29, y30, y31, y32, y33, y34, y35, y36, y37, y38, y39, y40, y41, y42, y43, y44, y45, y46, y47, y48, y49, y50, y51, y52, y53, y54, y55, y56, y57, y58, y59, y60, y61, y62, y63, y64, y65, y66, y67, y68, y69, y70, x71, x72, x73, x74, x75, x76, x77, x78, x79, x80, x81, x82, x83, x84, x85, x86, x87, x88, x89, x90, x91, x92, x93, x94, x95, x96, x97, x98, x99, x100, x101, x102, x103, x104, x105, x106, x107, x108, x109, x110, y111, y112, y113, y114, y115, y116, y117, y118, y119, y120, y121, y122, y123, y124, y125, y126, y127, y128, y129, y130, y131, y132, y133, y134, y135, y136, y137, y138, y139, y140], []⟩ W K Q else K ((⟨#[y0, y1, y2, y3, y4, y5, y6, y7, y8, y9, y10, y11, y12, y13, y14, y15, y16, y17, y18, y19, y20, y21, y22, y23, y24, y25, y26, y27, y28, y29, y30, y31, y32, y33, y34, y35, y36, y37, y38, y39, y40, y41, y42, y43, y44, y45, y46, y47, y48, y49, y50, y51, y52, y53, y54, y55, y56, y57, y58, y59, y60, y61, y62, y63, y64, y65, y66, y67, y68, y69, y70, x71, x72, x73, x74, x75, x76, x77, x78, x79, x80, x81, x82, x83, x84, x85, x86, x87, x88, x89, x90, x91, x92, x93, x94, x95, x96, x97, x98, x99, x100, x101, x102, x103, x104, x105, x106, x107, x108, x109, x110, y111, y112, y113, y114, y115, y116, y117, y118, y119, y120, y121, y122, y123, y124, y125, y126, y127, y128, y129, y130, y131, y132, y133, y134, y135, y136, y137, y138, y139, y140], []⟩ : Act).put o.dst undef) W) : StepI P ops (IPT16D W1 G gx hv nn aft bef ff lo ln lc Y bb y0 y1 y2 y3 y4 y5 y6 y7 y8 y9 y10 y11 y12 y13 y14 y15 y16 y17 y18 y19 y20 y21 y22 y23 y24 y25 y26 y27 y28 y29 y30 y31 y32 y33 y34 y35 y36 y37 y38 y39 y40 y41 y42 y43 y44 y45 y46 y47 y48 y49 y50 y51 y52 y53 y54 y55 y56 y57 y58 y59 y60 y61 y62 y63 y64 y65 y66 y67 y68 y69 y70 y111 y112 y113 y114 y115 y116 y117 y118 y119 y120 y121 y122 y123 y124 y125 y126 y127 y128 y129 y130 y131 y132 y133 y134 y135 y136 y137 y138 y139 y140) Q i o := by
  rintro L a W ⟨x71, x72, x73, x74, x75, x76, x77, x78, x79, x80, x81, x82, x83, x84, x85, x86, x87, x88, x89, x90, x91, x92, x93, x94, x95, x96, x97, x98, x99, x100, x101, x102, x103, x104, x105, x106, x107, x108, x109, x110, rfl, h⟩
  exact hq _ _ _ _ _ _ _ _ _ _ _ _ _ _ _ _ _ _ _ _ _ _ _ _ _ _ _ _ _ _ _ _ _ _ _ _ _ _ _ _ _ _ h
structure PT16E (W1 : World) (G gx hv nn aft bef ff : Nat) (lo : Option Addr) (ln lc : Nat) (Y : List Value) (bb : Bool) (L : Nat -> Bool) (x71 x72 x73 x74 x75 x76 x77 x78 x79 x80 x81 x82 x83 x84 x85 x86 x87 x88 x89 x90 x91 x92 x93 x94 x95 x96 x97 x98 x99 x100 x101 x102 x103 x104 x105 x106 x107 x108 x109 x110 : Value) (W : World) : Prop where
  x : Below W1.heap.size W1 W
  p0 : L 0 = true -> x71 = .pointer (some ⟨G, 2, none⟩)
  p1 : L 1 = true -> x72 = .int .i64 (nn : Int)
  p2 : L 2 = true -> x73 = .bool false
  p3 : L 3 = true -> x74 = .bool false
  p4 : L 4 = true -> x75 = .int .i64 (hv : Int)
  p5 : L 5 = true -> x76 = .pointer (some ⟨G, 2, none⟩)
  p6 : L 6 = true -> x77 = .int .i64 (nn : Int)
  p7 : L 7 = true -> x78 = .int .i64 ((hv : Int) + (nn : Int))
  p8 : L 8 = true -> x79 = .pointer (some ⟨gx, 0, none⟩)
  p9 : L 9 = true -> x80 = .pointer (some ⟨gx, 0, none⟩)
  p10 : L 10 = true -> x81 = .pointer (some ⟨gx, 65, none⟩)
  p11 : L 11 = true -> x82 = .int .i64 (aft : Int)
  p12 : L 12 = true -> x83 = .bool false
  p13 : L 13 = true -> x84 = .bool false
  p14 : L 14 = true -> x85 = .bool false
  p15 : L 15 = true -> x86 = .pointer (some ⟨G, 0, none⟩)
  p16 : L 16 = true -> x87 = .bool false
  p17 : L 17 = true -> x88 = .bool true
  p18 : L 18 = true -> x89 = .bool true
  p19 : L 19 = true -> x90 = .pointer (some ⟨G, 1, none⟩)
  p20 : L 20 = true -> x91 = .int .i64 (ff : Int)
  p21 : L 21 = true -> x92 = .pointer (some ⟨G, 2, none⟩)
  p22 : L 22 = true -> x93 = .int .i64 (nn : Int)
  p23 : L 23 = true -> x94 = .int .i64 ((ff : Int) + (nn : Int))
  p24 : L 24 = true -> x95 = .pointer (some ⟨gx, 0, none⟩)
  p25 : L 25 = true -> x96 = .pointer (some ⟨gx, 0, none⟩)
  p26 : L 26 = true -> x97 = .pointer (some ⟨gx, 64, none⟩)
  p27 : L 27 = true -> x98 = .int .i64 (bef : Int)
  p28 : L 28 = true -> x99 = .bool false
  p29 : L 29 = true -> x100 = .bool false
  p30 : L 30 = true -> x101 = .bool false
  p31 : L 31 = true -> x102 = .bool false
  p32 : L 32 = true -> x103 = .pointer (some ⟨gx, 0, none⟩)
  p33 : L 33 = true -> x104 = .pointer (some ⟨gx, 0, none⟩)
  p34 : L 34 = true -> x105 = .pointer (some ⟨gx, 66, none⟩)
  p35 : L 35 = true -> x106 = .slice lo ln lc
  p36 : L 36 = true -> x107 = .agg Y.toArray
  p37 : L 37 = true -> x108 = .bool bb
  p38 : L 38 = true -> x109 = .bool (!bb)
  p39 : L 39 = true -> x110 = .bool (!bb)
section
variable {W1 : World} {G gx hv nn aft bef ff : Nat} {lo : Option Addr} {ln lc : Nat} {Y : List Value} {bb : Bool} {L : Nat -> Bool} {x71 x72 x73 x74 x75 x76 x77 x78 x79 x80 x81 x82 x83 x84 x85 x86 x87 x88 x89 x90 x91 x92 x93 x94 x95 x96 x97 x98 x99 x100 x101 x102 x103 x104 x105 x106 x107 x108 x109 x110 : Value} {W W2 : World}
end
@[reducible] def IPT16E (W1 : World) (G gx hv nn aft bef ff : Nat) (lo : Option Addr) (ln lc : Nat) (Y : List Value) (bb : Bool) (y0 y1 y2 y3 y4 y5 y6 y7 y8 y9 y10 y11 y12 y13 y14 y15 y16 y17 y18 y19 y20 y21 y22 y23 y24 y25 y26 y27 y28 y29 y30 y31 y32 y33 y34 y35 y36 y37 y38 y39 y40 y41 y42 y43 y44 y45 y46 y47 y48 y49 y50 y51 y52 y53 y54 y55 y56 y57 y58 y59 y60 y61 y62 y63 y64 y65 y66 y67 y68 y69 y70 y111 y112 y113 y114 y115 y116 y117 y118 y119 y120 y121 y122 y123 y124 y125 y126 y127 y128 y129 y130 y131 y132 y133 y134 y135 y136 y137 y138 y139 y140 : Value) : (Nat -> Bool) -> Act -> World -> Prop := fun L a W => ∃ x71 x72 x73 x74 x75 x76 x77 x78 x79 x80 x81 x82 x83 x84 x85 x86 x87 x88 x89 x90 x91 x92 x93 x94 x95 x96 x97 x98 x99 x100 x101 x102 x103 x104 x105 x106 x107 x108 x109 x110, a = ⟨#[y0, y1, y2, y3, y4, y5, y6, y7, y8, y9, y10, y11, y12, y13, y14, y15, y16, y17, y18, y19, y20, y21, y22, y23, y24, y25, y26, y27, y28, y29, y30, y31, y32, y33, y34, y35, y36, y37, y38, y39, y40, y41, y42, y43, y44, y45, y46, y47, y48, y49, y50, y51, y52, y53, y54, y55, y56, y57, y58, y59, y60, y61, y62, y63, y64, y65, y66, y67, y68, y69, y70, x71, x72, x73, x74, x75, x76, x77, x78, x79, x80, x81, x82, x83, x84, x85, x86, x87, x88, x89, x90, x91, x92, x93, x94, x95, x96, x97, x98, x99, x100, x101, x102, x103, x104, x105, x106, x107, x108, x109, x110, y111, y112, y113, y114, y115, y116, y117, y118, y119, y120, y121, y122, y123, y124, y125, y126, y127, y128, y129, y130, y131, y132, y133, y134, y135, y136, y137, y138, y139, y140], []⟩ /\ PT16E W1 G gx hv nn aft bef ff lo ln lc Y bb L x71 x72 x73 x74 x75 x76 x77 x78 x79 x80 x81 x82 x83 x84 x85 x86 x87 x88 x89 x90 x91 x92 x93 x94 x95 x96 x97 x98 x99 x100 x101 x102 x103 x104 x105 x106 x107 x108 x109 x110 W
theorem PT16E.step {W1 : World} {G gx hv nn aft bef ff : Nat} {lo : Option Addr} {ln lc : Nat} {Y : List Value} {bb : Bool} {y0 y1 y2 y3 y4 y5 y6 y7 y8 y9 y10 y11 y12 y13 y14 y15 y16 y17 y18 y19 y20 y21 y22 y23 y24 y25 y26 y27 y28 y29 y30 y31 y32 y33 y34 y35 y36 y37 y38 y39 y40 y41 y42 y43 y44 y45 y46 y47 y48 y49 y50 y51 y52 y53 y54 y55 y56 y57 y58 y59 y60 y61 y62 y63 y64 y65 y66 y67 y68 y69 y70 y111 y112 y113 y114 y115 y116 y117 y118 y119 y120 y121 y122 y123 y124 y125 y126 y127 y128 y129 y130 y131 y132 y133 y134 y135 y136 y137 y138 y139 y140 : Value} {P : Program} {ops : Array Oper} {Q : Exit -> Act -> World -> Prop} {i : Nat} {o : Oper} (hq : ∀ x71 x72 x73 x74 x75 x76 x77 x78 x79 x80 x81 x82 x83 x84 x85 x86 x87 x88 x89 x90 x91 x92 x93 x94 x95 x96 x97 x98 x99 x100 x101 x102 x103 x104 x105 x106 x107 x108 x109 x110 (L : Nat -> Bool) (W : World), PT16E W1 G gx hv nn aft bef ff lo ln lc Y bb L x71 x72 x73 x74 x75 x76 x77 x78 x79 x80 x81 x82 x83 x84 x85 x86 x87 x88 x89 x90 x91 x92 x93 x94 x95 x96 x97 x98 x99 x100 x101 x102 x103 x104 x105 x106 x107 x108 x109 x110 W -> L i = false -> (∀ j ∈ onesOf o, L j = true) -> ∀ K : Act -> World -> Prop, Shut (∀ a' w', IPT16E W1 G gx hv nn aft bef ff lo ln lc Y bb y0 y1 y2 y3 y4 y5 y6 y7 y8 y9 y10 y11 y12 y13 y14 y15 y16 y17 y18 y19 y20 y21 y22 y23 y24 y25 y26 y27 y28 y29 y30 y31 y32 y33 y34 y35 y36 y37 y38 y39 y40 y41 y42 y43 y44 y45 y46 y47 y48 y49 y50 y51 y52 y53 y54 y55 y56 y57 y58 y59 y60 y61 y62 y63 y64 y65 y66 y67 y68 y69 y70 y111 y112 y113 y114 y115 y116 y117 y118 y119 y120 y121 y122 y123 y124 y125 y126 y127 y128 y129 y130 y131 y132 y133 y134 y135 y136 y137 y138 y139 y140 (upd L i) a' w' -> K a' w') -> if Region.wanted o (yielded ops (⟨#[y0, y1, y2, y3, y4, y5, y6, y7, y8, y9, y10, y11, y12, y13, y14, y15, y16, y17, y18, y19, y20, y21, y22, y23, y24, y25, y26, y27, y28, y29, y30, y31, y32, y33, y34, y35, y36, y37, y38, y39, y40, y41, y42, y43, y44, y45, y46, y47, y48, y49, y50, y51, y52, y53, y54, y55, y56, y57, y58, y59, y60, y61, y62, y63, y64, y65, y66, y67, y68, y69, y70, x71, x72, x73, x74, x75, x76, x77, x78, x79, x80, x81, x82, x83, x84, x85, x86, x87, x88, x89, x90, x91, x92, x93, x94, x95, x96, x97, x98, x99, x100, x101, x102, x103, x104, x105, x106, x107, x108, x109, x110, y111, y112, y113, y114, y115, y116, y117, y118, y119, y120, y121, y122, y123, y124, y125, y126, y127, y128, y129, y130, y131, y132, y133, y134, y135, y136, y137, y138, y139, y140], []⟩ : Act).tmps) = true then Oper.wp P o ⟨#[y0, y1, y2, y3, y4, y5, y6, y7, y8, y9, y10, y11, y12, y13, y14, y15, y16, y17, y18, y19, y20, y21, y22, y23, y24, y25, y26, y27, y28, y29, y30, y31, y32, y33, y34, y35, y36, y37, y38, y39, y40, y41, y42, y43, y44, y45, y46, y47, y48, y49, y50, y51, y52, y53, y54, y55, y56, y57, y58, y59, y60, y61, y62, y63, y64, y65, y66, y67, y68, y69, y70, x71, x72, x73, x74, x75, x76, x77, x78, x79, x80, x81, x82, x83, x84, x85, x86, x87, x88, x89, x90, x91, x92, x93, x94, x95, x96, x97, x98, x99, x100, x101, x102, x103, x104, x105, x106, x107, x108, x109, x110, y111, y112, y113, y114, y115, y116, y117, y118, y119, y120, y121, y122, y123, y124, y125, y126, y127, y128, y129, y130, y131, y132, y133, y134, y135, y136, y137, y138, y139, y140], []⟩ W K Q else K ((⟨#[y0, y1, y2, y3, y4, y5, y6, y7, y8, y9, y10, y11, y12, y13, y14, y15, y16, y17, y18, y19, y20, y21, y22, y23, y24, y25, y26, y27, y28, y29, y30, y31, y32, y33, y34, y35, y36, y37, y38, y39, y40, y41, y42, y43, y44, y45, y46, y47, y48, y49, y50, y51, y52, y53, y54, y55, y56, y57, y58, y59, y60, y61, y62, y63, y64, y65, y66, y67, y68, y69, y70, x71, x72, x73, x74, x75, x76, x77, x78, x79, x80, x81, x82, x83, x84, x85, x86, x87, x88, x89, x90, x91, x92, x93, x94, x95, x96, x97, x98, x99, x100, x101, x102, x103, x104, x105, x106, x107, x108, x109, x110, y111, y112, y113, y114, y115, y116, y117, y118, y119, y120, y121, y122, y123, y124, y125, y126, y127, y128, y129, y130, y131, y132, y133, y134, y135, y136, y137, y138, y139, y140], []⟩ : Act).put o.dst undef) W) : StepI P ops (IPT16E W1 G gx hv nn aft bef ff lo ln lc Y bb y0 y1 y2 y3 y4 y5 y6 y7 y8 y9 y10 y11 y12 y13 y14 y15 y16 y17 y18 y19 y20 y21 y22 y23 y24 y25 y26 y27 y28 y29 y30 y31 y32 y33 y34 y35 y36 y37 y38 y39 y40 y41 y42 y43 y44 y45 y46 y47 y48 y49 y50 y51 y52 y53 y54 y55 y56 y57 y58 y59 y60 y61 y62 y63 y64 y65 y66 y67 y68 y69 y70 y111 y112 y113 y114 y115 y116 y117 y118 y119 y120 y121 y122 y123 y124 y125 y126 y127 y128 y129 y130 y131 y132 y133 y134 y135 y136 y137 y138 y139 y140) Q i o := by
  rintro L a W ⟨x71, x72, x73, x74, x75, x76, x77, x78, x79, x80, x81, x82, x83, x84, x85, x86, x87, x88, x89, x90, x91, x92, x93, x94, x95, x96, x97, x98, x99, x100, x101, x102, x103, x104, x105, x106, x107, x108, x109, x110, rfl, h⟩
  exact hq _ _ _ _ _ _ _ _ _ _ _ _ _ _ _ _ _ _ _ _ _ _ _ _ _ _ _ _ _ _ _ _ _ _ _ _ _ _ _ _ _ _ h
end Go.Proofs.YtplpoehfdhkhmaaDoor
