
import Derived.Test.YtplpoehfdhkhmaaDoorP25Wr
import Derived.Test.YtplpoehfdhkhmaaDoorHashEq
import Derived.Test.YtplpoehfdhkhmaaDoorP25St
/-! The reference's patch: Apply. (Printed by tools/gen25.py.) -/
namespace Go.Proofs.YtplpoehfdhkhmaaDoor
open Go.RowKit
set_option linter.unusedVariables false

theorem step_load_rng25 {ops : Array Oper} {o : Oper} {a : Act} {w : World} {K : Act -> World -> Prop} {Q : Exit -> Act -> World -> Prop} {X : Prop} (hw : Region.wanted o (yielded ops a.tmps) = true) (ty : TypeId) (x : Operand) (ho : o.op = .load ty x)
    (g off : Nat) (cs : List Value) (hr : w.rangeAt g off cs) (hx : a.eval x = .pointer (some ⟨g, off, none⟩)) (d : TypeDesc) (hu : Tryd.prog.underlying ty = some d) (hd : d.isRow = true) (hi : (Tryd.prog.info? ty).map (·.size) = some cs.length)
    (h : K (a.put o.dst (.agg cs.toArray)) w) : if Region.wanted o (yielded ops a.tmps) = true then Oper.wp Tryd.prog o a w K Q else X := by
  rw [if_pos hw]
  have hl := run_loadVar_mid (P := Tryd.prog) w g off ty cs d hr hu hd hi
  unfold Oper.wp execOp
  simp only [ho, hx, Instr.loadAt, Instr.sureAddr, Sem.run_bind, Sem.run_pure, Result.andThen_ok, hl]
  exact h
theorem owns_ty25 {N e size : Nat} {w : World} {v : Value} {n : Nat} {xs : List Value} (h : w.ownsRow N e size v n xs) (B : Nat) (hB : v.ownBlock = some B) : ∃ cur, w.heap[B]? = some (.cells cur e (0, 0)) := by
  rcases h.2 with ⟨e1, _⟩ | ⟨g, c, cur, e1, _, h2, _⟩
  · rw [e1] at hB; simp [Value.ownBlock] at hB
  · rw [e1] at hB
    simp [Value.ownBlock] at hB
    subst hB
    exact ⟨cur, h2⟩
theorem results_tmprow {fn : Func} {p u : Tmp} {ty : TypeId} (h : fn.results = #[.tmp u, .cell p ty]) (tmps : Array Value) (w : World) (g t : Nat) (cs : List Value) (d : TypeDesc)
    (hp : tmps.getD p undef = .pointer (some ⟨g, 0, none⟩)) (hr : Row w g t cs) (hu : Tryd.prog.underlying ty = some d) (hd : d.isRow = true) (hi : (Tryd.prog.info? ty).map (·.size) = some cs.length) :
    (results fn tmps).run Tryd.prog w = .ok (.tuple #[tmps.getD u undef, .agg cs.toArray]) w := by
  have hl := run_loadVar_mid (P := Tryd.prog) w g 0 ty cs d (by have := hr.range 0 cs.length; simpa using this) hu hd hi
  rw [Array.getD_eq_getD_getElem?] at hp
  simp only [results, h]
  simp [Result.andThen, asAddr, hp, hl]
theorem pxC_rngO {W : World} {G : Nat} {old new : List By} {bef aft : Nat} {sl : Value} (h : Row W G 34 (pxC old new bef aft sl)) (ho : old.length = 32) : W.rangeAt G 0 (old.map B8) := fun j v hv => by
  rw [Nat.zero_add]
  refine h.cell j v ?_
  have hj : j < (old.map B8).length := (List.getElem?_eq_some_iff.1 hv).1
  unfold pxC
  rw [List.append_assoc, List.getElem?_append_left hj]; exact hv
theorem pxC_rngN {W : World} {G : Nat} {old new : List By} {bef aft : Nat} {sl : Value} (h : Row W G 34 (pxC old new bef aft sl)) (ho : old.length = 32) : W.rangeAt G 32 (new.map B8) := fun j v hv => by
  refine h.cell (32 + j) v ?_
  have hj : j < (new.map B8).length := (List.getElem?_eq_some_iff.1 hv).1
  unfold pxC
  rw [List.append_assoc, List.getElem?_append_right (by rw [List.length_map, ho]; omega), List.length_map, ho, Nat.add_sub_cancel_left, List.getElem?_append_left hj]; exact hv
/-- What Read answers. -/
def RdP (w : World) (p : List By) (e : Ending) (w' : World) : Prop :=
  Below w.heap.size w w' /\ match readR p with
    | .error (k, a) => e = .returned (ansV zPx k a)
    | .ok x => ∃ C, e = .returned (ansV C 0 0) /\ PxV w.heap.size w' x C
/-- The reference's Read, whole. -/
def RdC : Prop := ∀ (w : World) (po : Option Addr) (pn pc : Nat) (p : List By), p.length = pn -> pn <= 140737488351232 -> pn <= pc -> IsB w po p -> Calls Tryd.prog 11 #[.slice po pn pc] w (RdP w p)
/-- What Apply answers. -/
def ApP (w : World) (old p : List By) (e : Ending) (w' : World) : Prop :=
  Below w.heap.size w w' /\ match applyR old p with
    | .error (k, a) => e = .returned (.tuple #[.slice none 0 0, .agg #[.int .i64 (k : Int), .int .i64 (a : Int)]])
    | .ok b => ∃ bo bc, e = .returned (.tuple #[.slice bo b.length bc, .agg #[.int .i64 0, .int .i64 0]]) /\ Own w.heap.size w' (.slice bo b.length bc) b
/-- An error's store, whenever it comes. -/
structure AE (w : World) (c : List Value) (g7 : Nat) (l2 : Bool) (W : World) : Prop where
  r5 : Row W w.heap.size 37 (if l2 = true then c else [.int .i64 0, .int .i64 0])
  r7 : Row W g7 37 c
  bel : Below w.heap.size w W
theorem AE.no {w : World} {c : List Value} {g7 : Nat} {l2 : Bool} {W : World} (h : AE w c g7 l2 W) (hl : l2 = false) : Row W w.heap.size 37 [.int .i64 0, .int .i64 0] := by
  have := h.r5
  subst hl
  exact this
theorem AE.set {w : World} {c : List Value} {g7 : Nat} {l2 : Bool} {W W2 : World} (h : AE w c g7 l2 W) (hg : w.heap.size < g7) (hr : Row W2 w.heap.size 37 c) (hs : SameBut w.heap.size W W2) : AE w c g7 true W2 :=
  ⟨hr, h.r7.but hs (by omega), hs.below h.bel (Nat.le_refl _)⟩

structure AP3 (W1 : World) (c : List Value) (g7 : Nat) (L : Nat -> Bool) (x17 x4 : Value) (W : World) : Prop where
  x : AE W1 c g7 (L 2) W
  p0 : L 0 = true -> x17 = .agg c.toArray
  p1 : L 1 = true -> x4 = .slice none 0 0
section
variable {W1 : World} {c : List Value} {g7 : Nat} {L : Nat -> Bool} {x17 x4 : Value} {W W2 : World}
end
@[reducible] def IAP3 (W1 : World) (c : List Value) (g7 : Nat) (y0 y1 y2 y3 y5 y6 y7 y8 y9 y10 y11 y12 y13 y14 y15 y16 y18 y19 y20 y21 y22 y23 y24 y25 y26 y27 y28 y29 y30 y31 y32 y33 y34 y35 y36 y37 y38 y39 y40 y41 : Value) : (Nat -> Bool) -> Act -> World -> Prop := fun L a W => ∃ x17 x4, a = ⟨#[y0, y1, y2, y3, x4, y5, y6, y7, y8, y9, y10, y11, y12, y13, y14, y15, y16, x17, y18, y19, y20, y21, y22, y23, y24, y25, y26, y27, y28, y29, y30, y31, y32, y33, y34, y35, y36, y37, y38, y39, y40, y41], []⟩ /\ AP3 W1 c g7 L x17 x4 W
structure AP4L (W1 : World) (G : Nat) (ao : Option Addr) (n cap bf : Nat) (SO OC : List Value) (r : Bool) (L : Nat -> Bool) (x18 x19 x20 x21 x22 x23 x24 x25 x26 x27 x28 x29 : Value) (W : World) : Prop where
  x : Below W1.heap.size W1 W
  p0 : L 0 = true -> x18 = .slice ao n cap
  p1 : L 1 = true -> x19 = .int .i64 (n : Int)
  p2 : L 2 = true -> x20 = .pointer (some ⟨G, 64, none⟩)
  p3 : L 3 = true -> x21 = .int .i64 (bf : Int)
  p4 : L 4 = true -> x22 = .bool true
  p5 : L 5 = true -> x23 = .bool true
  p11 : L 11 = true -> x29 = .bool true
section
variable {W1 : World} {G : Nat} {ao : Option Addr} {n cap bf : Nat} {SO OC : List Value} {r : Bool} {L : Nat -> Bool} {x18 x19 x20 x21 x22 x23 x24 x25 x26 x27 x28 x29 : Value} {W W2 : World}
end
@[reducible] def IAP4L (W1 : World) (G : Nat) (ao : Option Addr) (n cap bf : Nat) (SO OC : List Value) (r : Bool) (y0 y1 y2 y3 y4 y5 y6 y7 y8 y9 y10 y11 y12 y13 y14 y15 y16 y17 y30 y31 y32 y33 y34 y35 y36 y37 y38 y39 y40 y41 : Value) : (Nat -> Bool) -> Act -> World -> Prop := fun L a W => ∃ x18 x19 x20 x21 x22 x23 x24 x25 x26 x27 x28 x29, a = ⟨#[y0, y1, y2, y3, y4, y5, y6, y7, y8, y9, y10, y11, y12, y13, y14, y15, y16, y17, x18, x19, x20, x21, x22, x23, x24, x25, x26, x27, x28, x29, y30, y31, y32, y33, y34, y35, y36, y37, y38, y39, y40, y41], []⟩ /\ AP4L W1 G ao n cap bf SO OC r L x18 x19 x20 x21 x22 x23 x24 x25 x26 x27 x28 x29 W
structure AP4E (W1 : World) (G : Nat) (ao : Option Addr) (n cap bf : Nat) (SO OC : List Value) (r : Bool) (L : Nat -> Bool) (x18 x19 x20 x21 x22 x23 x24 x25 x26 x27 x28 x29 : Value) (W : World) : Prop where
  x : Below W1.heap.size W1 W
  p0 : L 0 = true -> x18 = .slice ao n cap
  p1 : L 1 = true -> x19 = .int .i64 (n : Int)
  p2 : L 2 = true -> x20 = .pointer (some ⟨G, 64, none⟩)
  p3 : L 3 = true -> x21 = .int .i64 (bf : Int)
  p4 : L 4 = true -> x22 = .bool false
  p5 : L 5 = true -> x23 = .bool false
  p6 : L 6 = true -> x24 = .slice ao n cap
  p7 : L 7 = true -> x25 = .agg SO.toArray
  p8 : L 8 = true -> x26 = .pointer (some ⟨G, 0, none⟩)
  p9 : L 9 = true -> x27 = .agg OC.toArray
  p10 : L 10 = true -> x28 = .bool (!r)
  p11 : L 11 = true -> x29 = .bool (!r)
section
variable {W1 : World} {G : Nat} {ao : Option Addr} {n cap bf : Nat} {SO OC : List Value} {r : Bool} {L : Nat -> Bool} {x18 x19 x20 x21 x22 x23 x24 x25 x26 x27 x28 x29 : Value} {W W2 : World}
end
@[reducible] def IAP4E (W1 : World) (G : Nat) (ao : Option Addr) (n cap bf : Nat) (SO OC : List Value) (r : Bool) (y0 y1 y2 y3 y4 y5 y6 y7 y8 y9 y10 y11 y12 y13 y14 y15 y16 y17 y30 y31 y32 y33 y34 y35 y36 y37 y38 y39 y40 y41 : Value) : (Nat -> Bool) -> Act -> World -> Prop := fun L a W => ∃ x18 x19 x20 x21 x22 x23 x24 x25 x26 x27 x28 x29, a = ⟨#[y0, y1, y2, y3, y4, y5, y6, y7, y8, y9, y10, y11, y12, y13, y14, y15, y16, y17, x18, x19, x20, x21, x22, x23, x24, x25, x26, x27, x28, x29, y30, y31, y32, y33, y34, y35, y36, y37, y38, y39, y40, y41], []⟩ /\ AP4E W1 G ao n cap bf SO OC r L x18 x19 x20 x21 x22 x23 x24 x25 x26 x27 x28 x29 W
structure AP7 (W1 : World) (G : Nat) (bo : Option Addr) (m bc : Nat) (SB NC : List Value) (r : Bool) (L : Nat -> Bool) (x34 x35 x36 x37 x38 : Value) (W : World) : Prop where
  x : Below W1.heap.size W1 W
  p0 : L 0 = true -> x34 = .slice bo m bc
  p1 : L 1 = true -> x35 = .agg SB.toArray
  p2 : L 2 = true -> x36 = .pointer (some ⟨G, 32, none⟩)
  p3 : L 3 = true -> x37 = .agg NC.toArray
  p4 : L 4 = true -> x38 = .bool (!r)
section
variable {W1 : World} {G : Nat} {bo : Option Addr} {m bc : Nat} {SB NC : List Value} {r : Bool} {L : Nat -> Bool} {x34 x35 x36 x37 x38 : Value} {W W2 : World}
end
@[reducible] def IAP7 (W1 : World) (G : Nat) (bo : Option Addr) (m bc : Nat) (SB NC : List Value) (r : Bool) (y0 y1 y2 y3 y4 y5 y6 y7 y8 y9 y10 y11 y12 y13 y14 y15 y16 y17 y18 y19 y20 y21 y22 y23 y24 y25 y26 y27 y28 y29 y30 y31 y32 y33 y39 y40 y41 : Value) : (Nat -> Bool) -> Act -> World -> Prop := fun L a W => ∃ x34 x35 x36 x37 x38, a = ⟨#[y0, y1, y2, y3, y4, y5, y6, y7, y8, y9, y10, y11, y12, y13, y14, y15, y16, y17, y18, y19, y20, y21, y22, y23, y24, y25, y26, y27, y28, y29, y30, y31, y32, y33, x34, x35, x36, x37, x38, y39, y40, y41], []⟩ /\ AP7 W1 G bo m bc SB NC r L x34 x35 x36 x37 x38 W
set_option maxHeartbeats 4000000 in
set_option maxRecDepth 100000 in
theorem r25Apply_any (RD : RdC) (w : World) (ao : Option Addr) (n cap : Nat) (old : List By) (hn : old.length = n) (hn47 : n <= 140737488351232) (hcap : n <= cap) (hao : ao = none -> cap = 0) (hb : IsB w ao old)
    (po : Option Addr) (pn pc : Nat) (p : List By) (hpn : p.length = pn) (hp47 : pn <= 140737488351232) (hpc : pn <= pc) (hp : IsB w po p) :
    Calls Tryd.prog 13 #[.slice ao n cap, .slice po pn pc] w (ApP w old p) := by
  obtain ⟨w1, hw1⟩ : ∃ w1, w1 = w.alloc (.cells #[.int .i64 0, .int .i64 0] 37) := ⟨_, rfl⟩
  have b1 : Below w.heap.size w w1 := by rw [hw1]; exact (Below.refl _ _).alloc (Nat.le_refl _) _
  have r1 : Row w1 w.heap.size 37 [.int .i64 0, .int .i64 0] := by rw [hw1]; exact Row.at w _ _ _ _ rfl rfl
  have hz1 : w1.heap.size = w.heap.size + 1 := by rw [hw1]; simp
  have RD1 := RD w1 po pn pc p hpn hp47 hpc (hp.below b1 (Nat.le_refl _))
  rw [hw1] at RD1
  have HI : Hid (∀ W, Below w.heap.size w W -> IsB W ao old) := fun W h => hb.below h (Nat.le_refl _)
  have HN : Hid (old.length = n) := hn
  have HAO : Hid (ao = none -> cap = 0) := hao
  have B1 : Hid (Below w.heap.size w w1) := b1
  have R1 : Hid (Row w1 w.heap.size 37 [.int .i64 0, .int .i64 0]) := r1
  have HZ1 : Hid (w1.heap.size = w.heap.size + 1) := hz1
  clear hb hp hn hpn b1 r1 hao hz1
  go_enter Tryd.func13, Tryd.ntmps13
  go_wp2_with fail
  refine RD1.mono ?_
  rw [<- hw1]
  clear RD1 hw1
  rintro e w2 ⟨hb2, hm⟩
  have r2 := R1.out.below hb2 R1.out.lt
  have b2 : Below w.heap.size w w2 := B1.out.trans (hb2.mono B1.out.size)
  have hG2 : Hid (w.heap.size + 1 <= w2.heap.size) := by show _ <= _; have := hb2.size; have := HZ1.out; omega
  have AP : Hid (∀ k a, applyR old p = .error (k, a) -> ∀ W, Row W w.heap.size 37 [.int .i64 (k : Int), .int .i64 (a : Int)] -> Below w.heap.size w W -> ApP w old p (.returned (.tuple #[.slice none 0 0, .agg #[.int .i64 (k : Int), .int .i64 (a : Int)]])) W) := fun k a h W _ hbW => by
    unfold ApP
    rw [h]
    exact ⟨hbW, rfl⟩
  cases hrd : readR p with
  | error ka =>
    obtain ⟨k, a⟩ := ka
    rw [hrd] at hm
    have hm : e = .returned (ansV zPx k a) := hm
    subst hm
    have hk := (readR_wrong hrd).1
    have HAP : Hid (applyR old p = .error (k, a)) := by show _ = _; unfold applyR; rw [hrd]
    have kne : (((k : Nat) : Int) == 0) = false := by rw [beq_eq_false_iff_ne]; omega
    obtain ⟨ZP, hZP⟩ : ∃ ZP : Array Value, ZP = zPx.toArray := ⟨_, rfl⟩
    have HZP : Hid (ZP = zPx.toArray) := hZP
    unfold ansV
    rw [<- hZP]
    dsimp only
    clear hrd hZP
    obtain ⟨G, hG⟩ : ∃ G, G = w2.heap.size := ⟨_, rfl⟩
    have Z6 : Hid (Row ((w2.alloc (.cells zPx.toArray 34)).alloc (.cells #[.int .i64 0, .int .i64 0] 37)) G 34 zPx) := (Row.at w2 _ _ _ _ hG rfl).alloc _
    have Z7 : Hid (Row ((w2.alloc (.cells zPx.toArray 34)).alloc (.cells #[.int .i64 0, .int .i64 0] 37)) (G + 1) 37 [.int .i64 0, .int .i64 0]) := Row.at _ _ _ _ _ (by rw [hG]; simp) rfl
    have Q6 : Hid (Row ((w2.alloc (.cells zPx.toArray 34)).alloc (.cells #[.int .i64 0, .int .i64 0] 37)) w.heap.size 37 [.int .i64 0, .int .i64 0] /\ Below w.heap.size w ((w2.alloc (.cells zPx.toArray 34)).alloc (.cells #[.int .i64 0, .int .i64 0] 37))) := ⟨(r2.alloc _).alloc _, (b2.alloc b2.size _).alloc (by have := b2.size; simp; omega) _⟩
    have HG : Hid (G = w2.heap.size) := hG
    have hGl : w.heap.size < G := by have := hG2.out; omega
    clear hG r2 b2 hb2 RD hG2
    go_wp2_with (first
      | (have hz := Z6; clear hz; rw [<- HG.out]; refine wpList_store_Row rfl 34 (.tmp 6) (.tmp 12) rfl G 34 0 zPx zPx Z6.out (Nat.le_refl _) rfl (congrArg Value.agg HZP.out) (by kernel_rfl) zPx_one ?_; intro w3 hr3 hs3; have h7 : Hid (Row w3 (G + 1) 37 [.int .i64 0, .int .i64 0] /\ Row w3 w.heap.size 37 [.int .i64 0, .int .i64 0] /\ Below w.heap.size w w3) := ⟨Z7.out.but hs3 (by omega), Q6.out.1.but hs3 (by omega), hs3.below Q6.out.2 (by omega)⟩; clear hr3 hs3 Z6 Z7 Q6)
      | (have hz := h7; clear hz; refine wpList_store_Row rfl 37 (.tmp 7) (.tmp 13) rfl (G + 1) 37 0 [.int .i64 0, .int .i64 0] [.int .i64 (k : Int), .int .i64 (a : Int)] h7.out.1 (Nat.le_refl _) rfl rfl (by kernel_rfl) (wr2_one _ _) ?_; intro w4 hr4 hs4; have h8 : Hid (Row w4 (G + 1) 37 [.int .i64 (k : Int), .int .i64 (a : Int)] /\ Row w4 w.heap.size 37 [.int .i64 0, .int .i64 0] /\ Below w.heap.size w w4) := ⟨row_whole hr4 (Nat.le_refl _), h7.out.2.1.but hs4 (by omega), hs4.below h7.out.2.2 (by omega)⟩; have c0 := h8.out.1.cell 0 _ rfl; clear hr4 hs4 h7))
    have M3 : Hid (AE w [.int .i64 (k : Int), .int .i64 (a : Int)] (G + 1) false w4.drew) := ⟨h8.out.2.1, h8.out.1, h8.out.2.2.drew⟩
    clear c0 h8
    refine wp_region_inv (IAP3 w [.int .i64 (k : Int), .int .i64 (a : Int)] (G + 1) _ _ _ _ _ _ _ _ _ _ _ _ _ _ _ _ _ _ _ _ _ _ _ _ _ _ _ _ _ _ _ _ _ _ _ _ _ _ _ _) (by kernel_rfl) (by kernel_rfl) ⟨_, _, rfl, ⟨M3.out, fun k => (by cases k), fun k => (by cases k)⟩⟩ ?_ ?_
    · refine .cons ?_ (.cons ?_ (.cons ?_ .nil))
      all_goals (rintro L _ W ⟨x17, x4, rfl, hI⟩ hL hd K hK)
      · refine step_load_Row rfl 37 _ rfl (G + 1) 37 [.int .i64 (k : Int), .int .i64 (a : Int)] hI.x.r7 rfl _ Tryd.underlying37 rfl (by kernel_rfl) ?_
        exact hK.out _ _ ⟨_, _, rfl, { hI with p0 := fun _ => rfl }⟩
      · rw [if_pos (by rfl)]
        go_simp
        exact hK.out _ _ ⟨_, _, rfl, { hI with p1 := fun _ => rfl }⟩
      · obtain rfl := hI.p0 (hd 0 (by decide))
        refine step_store_Row rfl 37 _ _ rfl w.heap.size 37 [.int .i64 0, .int .i64 0] [.int .i64 (k : Int), .int .i64 (a : Int)] (hI.x.no hL) rfl rfl rfl (by kernel_rfl) (wr2_one _ _) ?_
        intro W2 hr2 hs2
        have hX := hI.x.set (by omega) hr2 hs2
        exact hK.out _ _ ⟨_, _, rfl, { hI with x := hX }⟩
    · rintro L _ W hall ⟨x17, x4, rfl, hI⟩
      obtain rfl := hI.p0 (hall 0 (by decide))
      obtain rfl := hI.p1 (hall 1 (by decide))
      have hXe := hI.x
      rw [hall 2 (by decide)] at hXe
      clear hI hall
      try dsimp only
      have hr := hXe.r5
      rw [if_pos rfl] at hr
      have HB : Hid (Below w.heap.size w W) := hXe.bel
      clear hXe
      go_wp2
      refine bodyPost_ret_by (results_tmprow Tryd.results13 _ W w.heap.size 37 _ _ rfl hr Tryd.underlying37 rfl (by kernel_rfl)) rfl ?_
      exact AP.out k a HAP.out _ hr HB.out
  | ok x =>
    rw [hrd] at hm
    obtain ⟨C, he, hpx⟩ := hm
    subst he
    have lC := hpx.len
    obtain ⟨lo, lc, hC, _⟩ := hpx.eq
    have oC : Hid (∀ v ∈ C, v.oneCell' = true) := by rw [hC]; exact pxC_one _ _ _ _ _ _ _
    have hok := hpx.ok
    have HC : Hid (C = pxC x.old x.new x.before x.after (.slice lo x.l.length lc)) := hC
    clear hC
    obtain ⟨G, hG⟩ : ∃ G, G = w2.heap.size := ⟨_, rfl⟩
    have Z6 : Hid (Row ((w2.alloc (.cells zPx.toArray 34)).alloc (.cells #[.int .i64 0, .int .i64 0] 37)) G 34 zPx) := (Row.at w2 _ _ _ _ hG rfl).alloc _
    have Z7 : Hid (Row ((w2.alloc (.cells zPx.toArray 34)).alloc (.cells #[.int .i64 0, .int .i64 0] 37)) (G + 1) 37 [.int .i64 0, .int .i64 0]) := Row.at _ _ _ _ _ (by rw [hG]; simp) rfl
    have b3 : Below w2.heap.size w2 ((w2.alloc (.cells zPx.toArray 34)).alloc (.cells #[.int .i64 0, .int .i64 0] 37)) := ((Below.refl _ _).alloc (Nat.le_refl _) _).alloc (by simp) _
    have HST : Hid (∀ w3 w4, SameBut G ((w2.alloc (.cells zPx.toArray 34)).alloc (.cells #[.int .i64 0, .int .i64 0] 37)) w3 -> SameBut (G + 1) w3 w4 -> Row w3 G 34 C -> Row w4 G 34 C /\ Row w4 w.heap.size 37 [.int .i64 0, .int .i64 0] /\ Below w.heap.size w w4 /\ PxV w1.heap.size w4 x C) := fun w3 w4 h3 h4 hr3 => by
      have hb4 : Below w2.heap.size w2 w4 := h4.below (h3.below b3 (by omega)) (by omega)
      have := hG2.out
      exact ⟨hr3.but h4 (by omega), r2.below hb4 r2.lt, b2.trans (hb4.mono b2.size), hpx.keep hb4⟩
    have HG : Hid (G = w2.heap.size) := hG
    have hGl : w.heap.size < G := by have := hG2.out; omega
    unfold ansV
    dsimp only
    clear hG r2 b2 hb2 RD hG2 b3 hpx
    go_wp2_with (first
      | (have hz := Z6; clear hz; rw [<- HG.out]; refine wpList_store_Row rfl 34 (.tmp 6) (.tmp 12) rfl G 34 0 zPx C Z6.out (by rw [lC]; exact Nat.le_refl _) rfl rfl (by rw [lC]; kernel_rfl) oC.out ?_; intro w3 hr3 hs3; have h7 : Hid (Row w3 (G + 1) 37 [.int .i64 0, .int .i64 0] /\ Row w3 G 34 C /\ SameBut G ((w2.alloc (.cells zPx.toArray 34)).alloc (.cells #[.int .i64 0, .int .i64 0] 37)) w3) := ⟨Z7.out.but hs3 (by omega), row_whole hr3 (by rw [lC]; exact Nat.le_refl _), hs3⟩; clear hr3 hs3 Z6 Z7)
      | (have hz := h7; clear hz; refine wpList_store_Row rfl 37 (.tmp 7) (.tmp 13) rfl (G + 1) 37 0 [.int .i64 0, .int .i64 0] [.int .i64 0, .int .i64 0] h7.out.1 (Nat.le_refl _) rfl rfl (by kernel_rfl) (wr2_one _ _) ?_; intro w4 hr4 hs4; have h8 : Hid _ := HST.out _ _ h7.out.2.2 hs4 h7.out.2.1; have c0 := (row_whole hr4 (Nat.le_refl _)).cell 0 _ rfl; clear hr4 hs4 h7))
    clear c0
    have CB : Hid (∀ W, Below w4.heap.size w4 W -> W.cell? ⟨G, 64, none⟩ = some (.int .i64 (x.before : Int))) := fun W hW => by
      have := h8.out.1.below hW h8.out.1.lt
      exact this.cell 64 _ (by rw [HC.out]; exact pxC_bef hok.lo hok.ln)
    have RO : Hid (∀ W, Below w4.heap.size w4 W -> W.rangeAt G 0 (x.old.map B8)) := fun W hW => by
      have := h8.out.1.below hW h8.out.1.lt
      rw [HC.out] at this
      exact pxC_rngO this hok.lo
    have RN : Hid (∀ W, Below w4.heap.size w4 W -> W.rangeAt G 32 (x.new.map B8)) := fun W hW => by
      have := h8.out.1.below hW h8.out.1.lt
      rw [HC.out] at this
      exact pxC_rngN this hok.lo
    have RC : Hid (∀ W, Below w4.heap.size w4 W -> Row W G 34 C) := fun W hW => h8.out.1.below hW h8.out.1.lt
    have HV : Hid (∀ W, Below w4.heap.size w4 W -> PxV w1.heap.size W x C) := fun W hW => h8.out.2.2.2.keep hW
    have HE : Hid (∀ W, Below w4.heap.size w4 W -> Row W w.heap.size 37 [.int .i64 0, .int .i64 0] /\ Below w.heap.size w W) := fun W hW => ⟨h8.out.2.1.below hW h8.out.2.1.lt, h8.out.2.2.1.trans (hW.mono h8.out.2.2.1.size)⟩
    have OFO : Hid (∀ W, Below w4.heap.size w4 W -> Calls Tryd.prog 25 #[.slice ao n cap] W fun e w' => e = .returned (.agg ((sha old).map B8).toArray) /\ Below W.heap.size W w') := fun W hW => ref_n ao cap n old HN.out (sha old) rfl W (HI.out W (HE.out W hW).2) HAO.out (by omega)
    have hBel := h8.out.2.2.1.size
    have lo32 : (x.old.map B8).length = 32 := by rw [List.length_map, hok.lo]
    have ln32 : (x.new.map B8).length = 32 := by rw [List.length_map, hok.ln]
    clear h8 HST
    by_cases hbf : n = x.before
    · have hsl : (sha old).length = 32 := shaLen _
      obtain ⟨r, hr⟩ : ∃ r, r = decide (sha old = x.old) := ⟨_, rfl⟩
      have qe := eq_any (sha old) x.old hsl hok.lo r hr
      have HRR : Hid (r = decide (sha old = x.old)) := hr
      have TL : Hid (∀ W, Below w4.heap.size w4 W -> Calls Tryd.prog 21 #[.agg C.toArray, .slice ao n cap] W fun e w' => ∃ ao' c', e = .returned (.slice ao' x.after c') /\ Own W.heap.size w' (.slice ao' x.after c') (tells x.l old) /\ Below W.heap.size W w') := fun W hW => r25Tells_any w1.heap.size x C W (HV.out W hW) ao n cap old HN.out (HI.out W (HE.out W hW).2) hbf hcap
      have HAPC : Hid (applyR old p = if sha old ≠ x.old then .error (11, 5) else if sha (tells x.l old) ≠ x.new then .error (19, 37) else .ok (tells x.l old)) := by
        show _ = _
        unfold applyR
        rw [hrd]
        show (if old.length ≠ x.before ∨ sha old ≠ x.old then _ else _) = _
        by_cases hh : sha old ≠ x.old
        · rw [if_pos (.inr hh), if_pos hh]
        · rw [if_neg (fun h => h.elim (fun h => h (HN.out.trans hbf)) hh), if_neg hh]
      rw [<- hbf] at CB
      clear hr hrd
      have TLEN : Hid ((tells x.l old).length = x.after) := by
        show _ = _
        rw [tells_len hok (HN.out.trans hbf) (fun y hy => hy), hok.sum]
      have hxa := hok.aft
      have lnx : Hid (x.new.length = 32) := hok.ln
      clear hbf
      generalize hSO : (sha old).map B8 = SO at *
      clear hSO
      generalize hOC : x.old.map B8 = OC at *
      clear hOC
      refine wp_region_inv (IAP4E w4 G ao n cap n SO OC r _ _ _ _ _ _ _ _ _ _ _ _ _ _ _ _ _ _ _ _ _ _ _ _ _ _ _ _ _ _) (by kernel_rfl) (by kernel_rfl) ⟨_, _, _, _, _, _, _, _, _, _, _, _, rfl, ⟨(Below.refl _ _).drew, fun k => (by cases k), fun k => (by cases k), fun k => (by cases k), fun k => (by cases k), fun k => (by cases k), fun k => (by cases k), fun k => (by cases k), fun k => (by cases k), fun k => (by cases k), fun k => (by cases k), fun k => (by cases k), fun k => (by cases k)⟩⟩ ?_ ?_
      · refine .cons ?_ (.cons ?_ (.cons ?_ (.cons ?_ (.cons ?_ (.cons ?_ (.cons ?_ (.cons ?_ (.cons ?_ (.cons ?_ (.cons ?_ (.cons ?_ .nil)))))))))))
        all_goals (rintro L _ W ⟨x18, x19, x20, x21, x22, x23, x24, x25, x26, x27, x28, x29, rfl, hI⟩ hL hd K hK)
        · rw [if_pos (by rfl)]
          go_simp
          exact hK.out _ _ ⟨_, _, _, _, _, _, _, _, _, _, _, _, rfl, { hI with p0 := fun _ => rfl }⟩
        · obtain rfl := hI.p0 (hd 0 (by decide))
          rw [if_pos (by rfl)]
          go_simp
          exact hK.out _ _ ⟨_, _, _, _, _, _, _, _, _, _, _, _, rfl, { hI with p1 := fun _ => rfl }⟩
        · rw [if_pos (by rfl)]
          go_simp
          exact hK.out _ _ ⟨_, _, _, _, _, _, _, _, _, _, _, _, rfl, { hI with p2 := fun _ => rfl }⟩
        · obtain rfl := hI.p2 (hd 2 (by decide))
          rw [if_pos (by rfl)]
          have hc := CB.out _ hI.x
          go_simp
          exact hK.out _ _ ⟨_, _, _, _, _, _, _, _, _, _, _, _, rfl, { hI with p3 := fun _ => rfl }⟩
        · obtain rfl := hI.p1 (hd 1 (by decide))
          obtain rfl := hI.p3 (hd 3 (by decide))
          rw [if_pos (by rfl)]
          go_simp
          exact hK.out _ _ ⟨_, _, _, _, _, _, _, _, _, _, _, _, rfl, { hI with p4 := fun _ => rfl }⟩
        · obtain rfl := hI.p4 (hd 4 (by decide))
          rw [if_pos (by rfl)]
          go_simp
          exact hK.out _ _ ⟨_, _, _, _, _, _, _, _, _, _, _, _, rfl, { hI with p5 := fun _ => rfl }⟩
        · obtain rfl := hI.p5 (hd 5 (by decide))
          rw [if_pos (by rfl)]
          go_simp
          exact hK.out _ _ ⟨_, _, _, _, _, _, _, _, _, _, _, _, rfl, { hI with p6 := fun _ => rfl }⟩
        · obtain rfl := hI.p6 (hd 6 (by decide))
          obtain rfl := hI.p5 (hd 5 (by decide))
          rw [if_pos (by rfl)]
          go_simp
          refine (OFO.out _ hI.x).mono ?_
          rintro e W2 ⟨rfl, b2⟩
          go_simp
          have hX := hI.x.trans (b2.mono hI.x.size)
          exact hK.out _ _ ⟨_, _, _, _, _, _, _, _, _, _, _, _, rfl, { hI with x := hX, p7 := fun _ => rfl }⟩
        · obtain rfl := hI.p5 (hd 5 (by decide))
          rw [if_pos (by rfl)]
          go_simp
          exact hK.out _ _ ⟨_, _, _, _, _, _, _, _, _, _, _, _, rfl, { hI with p8 := fun _ => rfl }⟩
        · obtain rfl := hI.p8 (hd 8 (by decide))
          obtain rfl := hI.p5 (hd 5 (by decide))
          refine step_load_rng25 rfl 25 _ rfl G 0 OC (RO.out _ hI.x) rfl _ Tryd.underlying25 rfl (by rw [lo32]; kernel_rfl) ?_
          exact hK.out _ _ ⟨_, _, _, _, _, _, _, _, _, _, _, _, rfl, { hI with p9 := fun _ => rfl }⟩
        · obtain rfl := hI.p7 (hd 7 (by decide))
          obtain rfl := hI.p9 (hd 9 (by decide))
          obtain rfl := hI.p5 (hd 5 (by decide))
          rw [if_pos (by rfl)]
          go_simp
          exact hK.out _ _ ⟨_, _, _, _, _, _, _, _, _, _, _, _, rfl, { hI with p10 := fun _ => rfl }⟩
        · obtain rfl := hI.p5 (hd 5 (by decide))
          obtain rfl := hI.p10 (hd 10 (by decide))
          rw [if_pos (by rfl)]
          go_simp
          exact hK.out _ _ ⟨_, _, _, _, _, _, _, _, _, _, _, _, rfl, { hI with p11 := fun _ => rfl }⟩
      · rintro L _ W hall ⟨x18, x19, x20, x21, x22, x23, x24, x25, x26, x27, x28, x29, rfl, hI⟩
        obtain rfl := hI.p0 (hall 0 (by decide))
        obtain rfl := hI.p1 (hall 1 (by decide))
        obtain rfl := hI.p2 (hall 2 (by decide))
        obtain rfl := hI.p3 (hall 3 (by decide))
        obtain rfl := hI.p4 (hall 4 (by decide))
        obtain rfl := hI.p5 (hall 5 (by decide))
        obtain rfl := hI.p6 (hall 6 (by decide))
        obtain rfl := hI.p7 (hall 7 (by decide))
        obtain rfl := hI.p8 (hall 8 (by decide))
        obtain rfl := hI.p9 (hall 9 (by decide))
        obtain rfl := hI.p10 (hall 10 (by decide))
        obtain rfl := hI.p11 (hall 11 (by decide))
        have hXe := hI.x
        clear hI hall
        try dsimp only
        have HBX : Hid (Below w4.heap.size w4 W) := hXe
        clear hXe qe
        cases r with
        | false =>
          have HAP : Hid (applyR old p = .error (11, 5)) := by show _ = _; rw [HAPC.out, if_pos (of_decide_eq_false HRR.out.symm)]
          have HX : Hid (Row W w.heap.size 37 [.int .i64 0, .int .i64 0] /\ Below w.heap.size w W) := HE.out _ HBX.out
          go_wp2_with (first
            | (have hz := HX; clear hz; refine wpList_store_Row rfl 37 (.tmp 5) (.tmp 30) rfl w.heap.size 37 0 [.int .i64 0, .int .i64 0] [.int .i64 (11), .int .i64 (5)] HX.out.1 (Nat.le_refl _) rfl rfl (by kernel_rfl) (wr2_one _ _) ?_; intro w9 hr9 hs9; have h9 : Hid (Row w9 w.heap.size 37 [.int .i64 (11), .int .i64 (5)] /\ Below w.heap.size w w9) := ⟨row_whole hr9 (Nat.le_refl _), hs9.below HX.out.2 (Nat.le_refl _)⟩; clear hr9 hs9 HX))
          refine bodyPost_ret_by (results_tmprow Tryd.results13 _ w9 w.heap.size 37 _ _ rfl h9.out.1 Tryd.underlying37 rfl (by kernel_rfl)) rfl ?_
          exact AP.out 11 5 HAP.out _ h9.out.1 h9.out.2
        | true =>
          have HAP1 : Hid (applyR old p = if sha (tells x.l old) ≠ x.new then .error (19, 37) else .ok (tells x.l old)) := by show _ = _; rw [HAPC.out, if_neg (fun h => h (of_decide_eq_true HRR.out.symm))]
          have RCW : Hid (Row W G 34 C) := RC.out _ HBX.out
          have TLW : Hid (Calls Tryd.prog 21 #[.agg C.toArray, .slice ao n cap] W fun e w' => ∃ ao' c', e = .returned (.slice ao' x.after c') /\ Own W.heap.size w' (.slice ao' x.after c') (tells x.l old) /\ Below W.heap.size W w') := TL.out _ HBX.out
          clear OFO CB RO TL HAPC HRR
          go_wp2_with (first
            | (have hz := RCW; clear hz; refine wpList_load_Row rfl 34 (.tmp 6) rfl G 34 C RCW.out rfl _ Tryd.underlying34 rfl (by rw [lC]; kernel_rfl) ?_; clear RCW)
            | (have hz := TLW; clear hz; go_at_call 21; refine TLW.out.mono ?_; rintro e w7 ⟨bo, bc, rfl, ho7, hb7⟩; have h7 : Hid (Own W.heap.size w7 (.slice bo x.after bc) (tells x.l old) /\ Below W.heap.size W w7) := ⟨ho7, hb7⟩; clear ho7 hb7 TLW))
          have hTl := TLEN.out
          have htl : (sha (tells x.l old)).length = 32 := shaLen _
          obtain ⟨r, hr⟩ : ∃ r, r = decide (sha (tells x.l old) = x.new) := ⟨_, rfl⟩
          have qe := eq_any (sha (tells x.l old)) x.new htl lnx.out r hr
          have HRR : Hid (r = decide (sha (tells x.l old) = x.new)) := hr
          have hb47 : Below w4.heap.size w4 w7 := HBX.out.trans (h7.out.2.mono HBX.out.size)
          have HE7 : Hid (∀ W, Below w7.heap.size w7 W -> Row W w.heap.size 37 [.int .i64 0, .int .i64 0] /\ Below w.heap.size w W) := fun W hW => HE.out W (hb47.trans (hW.mono hb47.size))
          have RN7 : Hid (∀ W, Below w7.heap.size w7 W -> W.rangeAt G 32 (x.new.map B8)) := fun W hW => RN.out W (hb47.trans (hW.mono hb47.size))
          have OW : Hid (∀ W, Below w7.heap.size w7 W -> Own w.heap.size W (.slice bo x.after bc) (tells x.l old)) := fun W hW => own_le (h7.out.1.keep hW) (HE.out _ HBX.out).2.size
          have OFB : Hid (∀ W, Below w7.heap.size w7 W -> Calls Tryd.prog 25 #[.slice bo x.after bc] W fun e w' => e = .returned (.agg ((sha (tells x.l old)).map B8).toArray) /\ Below W.heap.size W w') := fun W hW => ref_n bo bc x.after (tells x.l old) TLEN.out (sha (tells x.l old)) rfl W (own_IsB (OW.out W hW)) (own_isb (OW.out W hW)).2.1 (by omega)
          clear hr hTl hb47 h7 HE RN RC HV HBX
          generalize hSB : (sha (tells x.l old)).map B8 = SB at *
          clear hSB
          generalize hNC : x.new.map B8 = NC at *
          clear hNC
          refine wp_region_inv (IAP7 w7 G bo x.after bc SB NC r _ _ _ _ _ _ _ _ _ _ _ _ _ _ _ _ _ _ _ _ _ _ _ _ _ _ _ _ _ _ _ _ _ _ _ _ _) (by kernel_rfl) (by kernel_rfl) ⟨_, _, _, _, _, rfl, ⟨(Below.refl _ _).drew, fun k => (by cases k), fun k => (by cases k), fun k => (by cases k), fun k => (by cases k), fun k => (by cases k)⟩⟩ ?_ ?_
          · refine .cons ?_ (.cons ?_ (.cons ?_ (.cons ?_ (.cons ?_ .nil))))
            all_goals (rintro L _ W ⟨x34, x35, x36, x37, x38, rfl, hI⟩ hL hd K hK)
            · rw [if_pos (by rfl)]
              go_simp
              exact hK.out _ _ ⟨_, _, _, _, _, rfl, { hI with p0 := fun _ => rfl }⟩
            · obtain rfl := hI.p0 (hd 0 (by decide))
              rw [if_pos (by rfl)]
              go_simp
              refine (OFB.out _ hI.x).mono ?_
              rintro e W2 ⟨rfl, b2⟩
              go_simp
              have hX := hI.x.trans (b2.mono hI.x.size)
              exact hK.out _ _ ⟨_, _, _, _, _, rfl, { hI with x := hX, p1 := fun _ => rfl }⟩
            · rw [if_pos (by rfl)]
              go_simp
              exact hK.out _ _ ⟨_, _, _, _, _, rfl, { hI with p2 := fun _ => rfl }⟩
            · obtain rfl := hI.p2 (hd 2 (by decide))
              refine step_load_rng25 rfl 25 _ rfl G 32 NC (RN7.out _ hI.x) rfl _ Tryd.underlying25 rfl (by rw [ln32]; kernel_rfl) ?_
              exact hK.out _ _ ⟨_, _, _, _, _, rfl, { hI with p3 := fun _ => rfl }⟩
            · obtain rfl := hI.p1 (hd 1 (by decide))
              obtain rfl := hI.p3 (hd 3 (by decide))
              rw [if_pos (by rfl)]
              go_simp
              exact hK.out _ _ ⟨_, _, _, _, _, rfl, { hI with p4 := fun _ => rfl }⟩
          · rintro L _ W hall ⟨x34, x35, x36, x37, x38, rfl, hI⟩
            obtain rfl := hI.p0 (hall 0 (by decide))
            obtain rfl := hI.p1 (hall 1 (by decide))
            obtain rfl := hI.p2 (hall 2 (by decide))
            obtain rfl := hI.p3 (hall 3 (by decide))
            obtain rfl := hI.p4 (hall 4 (by decide))
            have hXe := hI.x
            clear hI hall
            try dsimp only
            have HX : Hid (Row W w.heap.size 37 [.int .i64 0, .int .i64 0] /\ Below w.heap.size w W) := HE7.out _ hXe
            have HO7 : Hid (Own w.heap.size W (.slice bo x.after bc) (tells x.l old)) := OW.out _ hXe
            clear hXe qe HE7 OW OFB RN7
            cases r with
            | false =>
              have HAP : Hid (applyR old p = .error (19, 37)) := by show _ = _; rw [HAP1.out, if_pos (of_decide_eq_false HRR.out.symm)]
              go_wp2_with (first
                | (have hz := HX; clear hz; refine wpList_store_Row rfl 37 (.tmp 5) (.tmp 39) rfl w.heap.size 37 0 [.int .i64 0, .int .i64 0] [.int .i64 (19), .int .i64 (37)] HX.out.1 (Nat.le_refl _) rfl rfl (by kernel_rfl) (wr2_one _ _) ?_; intro w9 hr9 hs9; have h9 : Hid (Row w9 w.heap.size 37 [.int .i64 (19), .int .i64 (37)] /\ Below w.heap.size w w9) := ⟨row_whole hr9 (Nat.le_refl _), hs9.below HX.out.2 (Nat.le_refl _)⟩; clear hr9 hs9 HX))
              refine bodyPost_ret_by (results_tmprow Tryd.results13 _ w9 w.heap.size 37 _ _ rfl h9.out.1 Tryd.underlying37 rfl (by kernel_rfl)) rfl ?_
              exact AP.out 19 37 HAP.out _ h9.out.1 h9.out.2
            | true =>
              have HAP : Hid (applyR old p = .ok (tells x.l old)) := by show _ = _; rw [HAP1.out, if_neg (fun h => h (of_decide_eq_true HRR.out.symm))]
              go_wp2_with (first
                | (have hz := HX; clear hz; refine wpList_store_Row rfl 37 (.tmp 5) (.tmp 41) rfl w.heap.size 37 0 [.int .i64 0, .int .i64 0] [.int .i64 0, .int .i64 0] HX.out.1 (Nat.le_refl _) rfl rfl (by kernel_rfl) (wr2_one _ _) ?_; intro w9 hr9 hs9; have h9 : Hid (Row w9 w.heap.size 37 [.int .i64 0, .int .i64 0] /\ Below w.heap.size w w9 /\ SameBut w.heap.size W w9 /\ Row W w.heap.size 37 [.int .i64 0, .int .i64 0]) := ⟨row_whole hr9 (Nat.le_refl _), hs9.below HX.out.2 (Nat.le_refl _), hs9, HX.out.1⟩; clear hr9 hs9 HX))
              refine bodyPost_ret_by (results_tmprow Tryd.results13 _ w9 w.heap.size 37 _ _ rfl h9.out.1 Tryd.underlying37 rfl (by kernel_rfl)) rfl ?_
              unfold ApP
              rw [HAP.out]
              refine ⟨h9.out.2.1, bo, bc, ?_, ?_⟩
              · rw [TLEN.out]; rfl
              · rw [TLEN.out]
                refine HO7.out.but h9.out.2.2.1 fun e => ?_
                subst e
                obtain ⟨cur, h1⟩ := owns_ty25 HO7.out.1 w.heap.size rfl
                have h2 := h9.out.2.2.2
                unfold Row at h2
                rw [h2] at h1
                injection h1 with h1
                injection h1 with _ h1
                cases h1
    · have HAP : Hid (applyR old p = .error (11, 5)) := by
        show _ = _
        unfold applyR
        rw [hrd]
        show (if old.length ≠ x.before ∨ sha old ≠ x.old then _ else _) = _
        rw [if_pos (.inl (by rw [HN.out]; exact hbf))]
      have ne1 : ((n : Int) != (x.before : Int)) = true := by rw [bne_iff_ne]; omega
      clear hrd hbf
      generalize x.before = bf at *
      refine wp_region_inv (IAP4L w4 G ao n cap bf [] [] false _ _ _ _ _ _ _ _ _ _ _ _ _ _ _ _ _ _ _ _ _ _ _ _ _ _ _ _ _ _) (by kernel_rfl) (by kernel_rfl) ⟨_, _, _, _, _, _, _, _, _, _, _, _, rfl, ⟨(Below.refl _ _).drew, fun k => (by cases k), fun k => (by cases k), fun k => (by cases k), fun k => (by cases k), fun k => (by cases k), fun k => (by cases k), fun k => (by cases k)⟩⟩ ?_ ?_
      · refine .cons ?_ (.cons ?_ (.cons ?_ (.cons ?_ (.cons ?_ (.cons ?_ (.cons ?_ (.cons ?_ (.cons ?_ (.cons ?_ (.cons ?_ (.cons ?_ .nil)))))))))))
        all_goals (rintro L _ W ⟨x18, x19, x20, x21, x22, x23, x24, x25, x26, x27, x28, x29, rfl, hI⟩ hL hd K hK)
        · rw [if_pos (by rfl)]
          go_simp
          exact hK.out _ _ ⟨_, _, _, _, _, _, _, _, _, _, _, _, rfl, { hI with p0 := fun _ => rfl }⟩
        · obtain rfl := hI.p0 (hd 0 (by decide))
          rw [if_pos (by rfl)]
          go_simp
          exact hK.out _ _ ⟨_, _, _, _, _, _, _, _, _, _, _, _, rfl, { hI with p1 := fun _ => rfl }⟩
        · rw [if_pos (by rfl)]
          go_simp
          exact hK.out _ _ ⟨_, _, _, _, _, _, _, _, _, _, _, _, rfl, { hI with p2 := fun _ => rfl }⟩
        · obtain rfl := hI.p2 (hd 2 (by decide))
          rw [if_pos (by rfl)]
          have hc := CB.out _ hI.x
          go_simp
          exact hK.out _ _ ⟨_, _, _, _, _, _, _, _, _, _, _, _, rfl, { hI with p3 := fun _ => rfl }⟩
        · obtain rfl := hI.p1 (hd 1 (by decide))
          obtain rfl := hI.p3 (hd 3 (by decide))
          rw [if_pos (by rfl)]
          go_simp
          exact hK.out _ _ ⟨_, _, _, _, _, _, _, _, _, _, _, _, rfl, { hI with p4 := fun _ => rfl }⟩
        · obtain rfl := hI.p4 (hd 4 (by decide))
          rw [if_pos (by rfl)]
          go_simp
          exact hK.out _ _ ⟨_, _, _, _, _, _, _, _, _, _, _, _, rfl, { hI with p5 := fun _ => rfl }⟩
        · obtain rfl := hI.p5 (hd 5 (by decide))
          rw [if_neg (by first | decide | exact Bool.false_ne_true)]
          exact hK.out _ _ ⟨_, _, _, _, _, _, _, _, _, _, _, _, rfl, { hI with }⟩
        · obtain rfl := hI.p5 (hd 5 (by decide))
          rw [if_neg (by first | decide | exact Bool.false_ne_true)]
          exact hK.out _ _ ⟨_, _, _, _, _, _, _, _, _, _, _, _, rfl, { hI with }⟩
        · obtain rfl := hI.p5 (hd 5 (by decide))
          rw [if_neg (by first | decide | exact Bool.false_ne_true)]
          exact hK.out _ _ ⟨_, _, _, _, _, _, _, _, _, _, _, _, rfl, { hI with }⟩
        · obtain rfl := hI.p5 (hd 5 (by decide))
          rw [if_neg (by first | decide | exact Bool.false_ne_true)]
          exact hK.out _ _ ⟨_, _, _, _, _, _, _, _, _, _, _, _, rfl, { hI with }⟩
        · obtain rfl := hI.p5 (hd 5 (by decide))
          rw [if_neg (by first | decide | exact Bool.false_ne_true)]
          exact hK.out _ _ ⟨_, _, _, _, _, _, _, _, _, _, _, _, rfl, { hI with }⟩
        · obtain rfl := hI.p5 (hd 5 (by decide))
          rw [if_pos (by rfl)]
          go_simp
          exact hK.out _ _ ⟨_, _, _, _, _, _, _, _, _, _, _, _, rfl, { hI with p11 := fun _ => rfl }⟩
      · rintro L _ W hall ⟨x18, x19, x20, x21, x22, x23, x24, x25, x26, x27, x28, x29, rfl, hI⟩
        obtain rfl := hI.p0 (hall 0 (by decide))
        obtain rfl := hI.p1 (hall 1 (by decide))
        obtain rfl := hI.p2 (hall 2 (by decide))
        obtain rfl := hI.p3 (hall 3 (by decide))
        obtain rfl := hI.p4 (hall 4 (by decide))
        obtain rfl := hI.p5 (hall 5 (by decide))
        obtain rfl := hI.p11 (hall 11 (by decide))
        have hXe := hI.x
        clear hI hall
        try dsimp only
        have HX : Hid (Row W w.heap.size 37 [.int .i64 0, .int .i64 0] /\ Below w.heap.size w W) := HE.out _ hXe
        clear hXe
        go_wp2_with (first
          | (have hz := HX; clear hz; refine wpList_store_Row rfl 37 (.tmp 5) (.tmp 30) rfl w.heap.size 37 0 [.int .i64 0, .int .i64 0] [.int .i64 (11), .int .i64 (5)] HX.out.1 (Nat.le_refl _) rfl rfl (by kernel_rfl) (wr2_one _ _) ?_; intro w9 hr9 hs9; have h9 : Hid (Row w9 w.heap.size 37 [.int .i64 (11), .int .i64 (5)] /\ Below w.heap.size w w9) := ⟨row_whole hr9 (Nat.le_refl _), hs9.below HX.out.2 (Nat.le_refl _)⟩; clear hr9 hs9 HX))
        refine bodyPost_ret_by (results_tmprow Tryd.results13 _ w9 w.heap.size 37 _ _ rfl h9.out.1 Tryd.underlying37 rfl (by kernel_rfl)) rfl ?_
        exact AP.out 11 5 HAP.out _ h9.out.1 h9.out.2
end Go.Proofs.YtplpoehfdhkhmaaDoor
