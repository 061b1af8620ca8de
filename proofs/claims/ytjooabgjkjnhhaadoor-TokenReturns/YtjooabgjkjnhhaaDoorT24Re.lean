
import Derived.Test.YtjooabgjkjnhhaaDoorT24Aw
/-! TokenReturns. (Printed by tools/gent24c.py.) -/
namespace Go.Proofs.YtjooabgjkjnhhaaDoor
open Go.RowKit
set_option linter.unusedVariables false
set_option linter.unusedSimpArgs false
set_option maxRecDepth 100000

theorem build_tkz (w : World) : (Instr.build 28 #[]).run Tryd.prog w = .ok (.agg zTk.toArray) w := by kernel_rfl
structure RE8 (W1 : World) (x : Tk) (io : Option Addr) (ic : Nat) (T X : List Value) (L : Nat → Bool) (x33 x34 x35 x36 x37 x38 x39 x40 x41 : Value) (W : World) : Prop where
  x : BS W1 x io ic (L 4) x37 W
  p0 : L 0 = true → x33 = .nilIface
  p1 : L 1 = true → x34 = .bool false
  p2 : L 2 = true → x35 = .bool false
  p3 : L 3 = true → x36 = .agg X.toArray
  p5 : L 5 = true → x38 = .agg T.toArray
  p6 : L 6 = true → x39 = .bool true
  p7 : L 7 = true → x40 = .bool false
  p8 : L 8 = true → x41 = .bool false
section
variable {W1 : World} {x : Tk} {io : Option Addr} {ic : Nat} {T X : List Value} {L : Nat → Bool} {x33 x34 x35 x36 x37 x38 x39 x40 x41 : Value} {W W2 : World}
theorem RE8.s0 (h : RE8 W1 x io ic T X L x33 x34 x35 x36 x37 x38 x39 x40 x41 W) : RE8 W1 x io ic T X (upd L 0) (.nilIface) x34 x35 x36 x37 x38 x39 x40 x41 W :=
  ⟨h.x, fun _ => rfl, h.p1, h.p2, h.p3, h.p5, h.p6, h.p7, h.p8⟩
theorem RE8.s1 (h : RE8 W1 x io ic T X L x33 x34 x35 x36 x37 x38 x39 x40 x41 W) : RE8 W1 x io ic T X (upd L 1) x33 (.bool false) x35 x36 x37 x38 x39 x40 x41 W :=
  ⟨h.x, h.p0, fun _ => rfl, h.p2, h.p3, h.p5, h.p6, h.p7, h.p8⟩
theorem RE8.s2 (h : RE8 W1 x io ic T X L x33 x34 x35 x36 x37 x38 x39 x40 x41 W) : RE8 W1 x io ic T X (upd L 2) x33 x34 (.bool false) x36 x37 x38 x39 x40 x41 W :=
  ⟨h.x, h.p0, h.p1, fun _ => rfl, h.p3, h.p5, h.p6, h.p7, h.p8⟩
theorem RE8.s3 (h : RE8 W1 x io ic T X L x33 x34 x35 x36 x37 x38 x39 x40 x41 W) : RE8 W1 x io ic T X (upd L 3) x33 x34 x35 (.agg X.toArray) x37 x38 x39 x40 x41 W :=
  ⟨h.x, h.p0, h.p1, h.p2, fun _ => rfl, h.p5, h.p6, h.p7, h.p8⟩
theorem RE8.s4 (h : RE8 W1 x io ic T X L x33 x34 x35 x36 x37 x38 x39 x40 x41 W) {v : Value} (hX : BS W1 x io ic ((upd L 4) 4) v W2) : RE8 W1 x io ic T X (upd L 4) x33 x34 x35 x36 v x38 x39 x40 x41 W2 :=
  ⟨hX, h.p0, h.p1, h.p2, h.p3, h.p5, h.p6, h.p7, h.p8⟩
theorem RE8.s5 (h : RE8 W1 x io ic T X L x33 x34 x35 x36 x37 x38 x39 x40 x41 W) : RE8 W1 x io ic T X (upd L 5) x33 x34 x35 x36 x37 (.agg T.toArray) x39 x40 x41 W :=
  ⟨h.x, h.p0, h.p1, h.p2, h.p3, fun _ => rfl, h.p6, h.p7, h.p8⟩
theorem RE8.s6 (h : RE8 W1 x io ic T X L x33 x34 x35 x36 x37 x38 x39 x40 x41 W) (hX : BS W1 x io ic ((upd L 6) 4) x37 W2) : RE8 W1 x io ic T X (upd L 6) x33 x34 x35 x36 x37 x38 (.bool true) x40 x41 W2 :=
  ⟨hX, h.p0, h.p1, h.p2, h.p3, h.p5, fun _ => rfl, h.p7, h.p8⟩
theorem RE8.s7 (h : RE8 W1 x io ic T X L x33 x34 x35 x36 x37 x38 x39 x40 x41 W) : RE8 W1 x io ic T X (upd L 7) x33 x34 x35 x36 x37 x38 x39 (.bool false) x41 W :=
  ⟨h.x, h.p0, h.p1, h.p2, h.p3, h.p5, h.p6, fun _ => rfl, h.p8⟩
theorem RE8.s8 (h : RE8 W1 x io ic T X L x33 x34 x35 x36 x37 x38 x39 x40 x41 W) : RE8 W1 x io ic T X (upd L 8) x33 x34 x35 x36 x37 x38 x39 x40 (.bool false) W :=
  ⟨h.x, h.p0, h.p1, h.p2, h.p3, h.p5, h.p6, h.p7, fun _ => rfl⟩
end
@[reducible] def IRE8 (W1 : World) (x : Tk) (io : Option Addr) (ic : Nat) (T X : List Value) (y0 y1 y2 y3 y4 y5 y6 y7 y8 y9 y10 y11 y12 y13 y14 y15 y16 y17 y18 y19 y20 y21 y22 y23 y24 y25 y26 y27 y28 y29 y30 y31 y32 y42 y43 y44 y45 y46 y47 y48 y49 y50 y51 y52 y53 y54 y55 y56 y57 y58 y59 y60 y61 y62 y63 y64 y65 y66 y67 y68 y69 y70 y71 y72 y73 y74 y75 y76 y77 y78 y79 y80 y81 y82 y83 y84 y85 y86 y87 y88 y89 y90 y91 y92 y93 : Value) : (Nat → Bool) → Act → World → Prop := fun L a W => ∃ x33 x34 x35 x36 x37 x38 x39 x40 x41, a = ⟨#[y0, y1, y2, y3, y4, y5, y6, y7, y8, y9, y10, y11, y12, y13, y14, y15, y16, y17, y18, y19, y20, y21, y22, y23, y24, y25, y26, y27, y28, y29, y30, y31, y32, x33, x34, x35, x36, x37, x38, x39, x40, x41, y42, y43, y44, y45, y46, y47, y48, y49, y50, y51, y52, y53, y54, y55, y56, y57, y58, y59, y60, y61, y62, y63, y64, y65, y66, y67, y68, y69, y70, y71, y72, y73, y74, y75, y76, y77, y78, y79, y80, y81, y82, y83, y84, y85, y86, y87, y88, y89, y90, y91, y92, y93], []⟩ ∧ RE8 W1 x io ic T X L x33 x34 x35 x36 x37 x38 x39 x40 x41 W
theorem RE8.step {W1 : World} {x : Tk} {io : Option Addr} {ic : Nat} {T X : List Value} {y0 y1 y2 y3 y4 y5 y6 y7 y8 y9 y10 y11 y12 y13 y14 y15 y16 y17 y18 y19 y20 y21 y22 y23 y24 y25 y26 y27 y28 y29 y30 y31 y32 y42 y43 y44 y45 y46 y47 y48 y49 y50 y51 y52 y53 y54 y55 y56 y57 y58 y59 y60 y61 y62 y63 y64 y65 y66 y67 y68 y69 y70 y71 y72 y73 y74 y75 y76 y77 y78 y79 y80 y81 y82 y83 y84 y85 y86 y87 y88 y89 y90 y91 y92 y93 : Value} {P : Program} {ops : Array Oper} {Q : Exit → Act → World → Prop} {i : Nat} {o : Oper} (hq : ∀ x33 x34 x35 x36 x37 x38 x39 x40 x41 (L : Nat → Bool) (W : World), RE8 W1 x io ic T X L x33 x34 x35 x36 x37 x38 x39 x40 x41 W → L i = false → (∀ j ∈ onesOf o, L j = true) → ∀ K : Act → World → Prop, Shut (∀ a' w', IRE8 W1 x io ic T X y0 y1 y2 y3 y4 y5 y6 y7 y8 y9 y10 y11 y12 y13 y14 y15 y16 y17 y18 y19 y20 y21 y22 y23 y24 y25 y26 y27 y28 y29 y30 y31 y32 y42 y43 y44 y45 y46 y47 y48 y49 y50 y51 y52 y53 y54 y55 y56 y57 y58 y59 y60 y61 y62 y63 y64 y65 y66 y67 y68 y69 y70 y71 y72 y73 y74 y75 y76 y77 y78 y79 y80 y81 y82 y83 y84 y85 y86 y87 y88 y89 y90 y91 y92 y93 (upd L i) a' w' → K a' w') → if Region.wanted o (yielded ops (⟨#[y0, y1, y2, y3, y4, y5, y6, y7, y8, y9, y10, y11, y12, y13, y14, y15, y16, y17, y18, y19, y20, y21, y22, y23, y24, y25, y26, y27, y28, y29, y30, y31, y32, x33, x34, x35, x36, x37, x38, x39, x40, x41, y42, y43, y44, y45, y46, y47, y48, y49, y50, y51, y52, y53, y54, y55, y56, y57, y58, y59, y60, y61, y62, y63, y64, y65, y66, y67, y68, y69, y70, y71, y72, y73, y74, y75, y76, y77, y78, y79, y80, y81, y82, y83, y84, y85, y86, y87, y88, y89, y90, y91, y92, y93], []⟩ : Act).tmps) = true then Oper.wp P o ⟨#[y0, y1, y2, y3, y4, y5, y6, y7, y8, y9, y10, y11, y12, y13, y14, y15, y16, y17, y18, y19, y20, y21, y22, y23, y24, y25, y26, y27, y28, y29, y30, y31, y32, x33, x34, x35, x36, x37, x38, x39, x40, x41, y42, y43, y44, y45, y46, y47, y48, y49, y50, y51, y52, y53, y54, y55, y56, y57, y58, y59, y60, y61, y62, y63, y64, y65, y66, y67, y68, y69, y70, y71, y72, y73, y74, y75, y76, y77, y78, y79, y80, y81, y82, y83, y84, y85, y86, y87, y88, y89, y90, y91, y92, y93], []⟩ W K Q else K ((⟨#[y0, y1, y2, y3, y4, y5, y6, y7, y8, y9, y10, y11, y12, y13, y14, y15, y16, y17, y18, y19, y20, y21, y22, y23, y24, y25, y26, y27, y28, y29, y30, y31, y32, x33, x34, x35, x36, x37, x38, x39, x40, x41, y42, y43, y44, y45, y46, y47, y48, y49, y50, y51, y52, y53, y54, y55, y56, y57, y58, y59, y60, y61, y62, y63, y64, y65, y66, y67, y68, y69, y70, y71, y72, y73, y74, y75, y76, y77, y78, y79, y80, y81, y82, y83, y84, y85, y86, y87, y88, y89, y90, y91, y92, y93], []⟩ : Act).put o.dst undef) W) : StepI P ops (IRE8 W1 x io ic T X y0 y1 y2 y3 y4 y5 y6 y7 y8 y9 y10 y11 y12 y13 y14 y15 y16 y17 y18 y19 y20 y21 y22 y23 y24 y25 y26 y27 y28 y29 y30 y31 y32 y42 y43 y44 y45 y46 y47 y48 y49 y50 y51 y52 y53 y54 y55 y56 y57 y58 y59 y60 y61 y62 y63 y64 y65 y66 y67 y68 y69 y70 y71 y72 y73 y74 y75 y76 y77 y78 y79 y80 y81 y82 y83 y84 y85 y86 y87 y88 y89 y90 y91 y92 y93) Q i o := by
  rintro L a W ⟨x33, x34, x35, x36, x37, x38, x39, x40, x41, rfl, h⟩
  exact hq _ _ _ _ _ _ _ _ _ _ _ h
theorem RE8.ends {W1 : World} {x : Tk} {io : Option Addr} {ic : Nat} {T X : List Value} {y0 y1 y2 y3 y4 y5 y6 y7 y8 y9 y10 y11 y12 y13 y14 y15 y16 y17 y18 y19 y20 y21 y22 y23 y24 y25 y26 y27 y28 y29 y30 y31 y32 y42 y43 y44 y45 y46 y47 y48 y49 y50 y51 y52 y53 y54 y55 y56 y57 y58 y59 y60 y61 y62 y63 y64 y65 y66 y67 y68 y69 y70 y71 y72 y73 y74 y75 y76 y77 y78 y79 y80 y81 y82 y83 y84 y85 y86 y87 y88 y89 y90 y91 y92 y93 : Value} {mm_ : Nat} {Q : Exit → Act → World → Prop} (hq : ∀ x33 x34 x35 x36 x37 x38 x39 x40 x41 (L : Nat → Bool) (W : World), (∀ j, j < mm_ → L j = true) → RE8 W1 x io ic T X L x33 x34 x35 x36 x37 x38 x39 x40 x41 W → Q .normal ⟨#[y0, y1, y2, y3, y4, y5, y6, y7, y8, y9, y10, y11, y12, y13, y14, y15, y16, y17, y18, y19, y20, y21, y22, y23, y24, y25, y26, y27, y28, y29, y30, y31, y32, x33, x34, x35, x36, x37, x38, x39, x40, x41, y42, y43, y44, y45, y46, y47, y48, y49, y50, y51, y52, y53, y54, y55, y56, y57, y58, y59, y60, y61, y62, y63, y64, y65, y66, y67, y68, y69, y70, y71, y72, y73, y74, y75, y76, y77, y78, y79, y80, y81, y82, y83, y84, y85, y86, y87, y88, y89, y90, y91, y92, y93], []⟩ W) : ∀ L a' w', (∀ j, j < mm_ → L j = true) → IRE8 W1 x io ic T X y0 y1 y2 y3 y4 y5 y6 y7 y8 y9 y10 y11 y12 y13 y14 y15 y16 y17 y18 y19 y20 y21 y22 y23 y24 y25 y26 y27 y28 y29 y30 y31 y32 y42 y43 y44 y45 y46 y47 y48 y49 y50 y51 y52 y53 y54 y55 y56 y57 y58 y59 y60 y61 y62 y63 y64 y65 y66 y67 y68 y69 y70 y71 y72 y73 y74 y75 y76 y77 y78 y79 y80 y81 y82 y83 y84 y85 y86 y87 y88 y89 y90 y91 y92 y93 L a' w' → Q .normal a' w' := by
  rintro L a W hall ⟨x33, x34, x35, x36, x37, x38, x39, x40, x41, rfl, h⟩
  exact hq _ _ _ _ _ _ _ _ _ _ _ hall h
set_option maxHeartbeats 4000000 in
/-- Get of any bytes, and what follows. -/
theorem ret5 (c0 c2 c3 c4 c5 c6 c7 c8 c9 c10 c11 c12 c13 c14 c15 c16 c17 c18 c19 c20 c21 c22 c23 c24 c25 c26 c27 c28 c29 c30 c31 c32 c33 c34 c35 c36 c37 c38 c39 c40 c41 c42 c43 c44 c45 c46 c47 c48 c49 c50 c51 c52 c53 c54 c55 c56 c57 c58 c59 c60 c61 c62 c63 c64 c65 c66 c67 c68 c69 c70 c71 c72 c73 c74 c75 c76 c77 c78 c79 c80 c81 c82 c83 c84 c85 c86 c87 c88 c89 c90 c91 c92 c93 : Value) (C : Tok) (w Wa : World) (hg : HG w) (hB : Below w.heap.size w Wa) (bo : Option Addr) (cap : Nat) (b : List By) (hb : IsB w bo b) (hbc : b.length ≤ cap) (hbn : bo = none → cap = 0) (hbl : b.length ≤ 140737488351232) : Code.wp Tryd.prog (dropS 5 (Tryd.f5.body.getD .skip)) (bodyPost Tryd.prog Tryd.f5 (OkP w)) ⟨#[c0, .slice bo b.length cap, c2, c3, c4, c5, c6, c7, c8, c9, c10, c11, c12, c13, c14, c15, c16, c17, c18, c19, c20, c21, c22, c23, c24, c25, c26, c27, c28, c29, c30, c31, c32, c33, c34, c35, c36, c37, c38, c39, c40, c41, c42, c43, c44, c45, c46, c47, c48, c49, c50, c51, c52, c53, c54, c55, c56, c57, c58, c59, c60, c61, c62, c63, c64, c65, c66, c67, c68, c69, c70, c71, c72, c73, c74, c75, c76, c77, c78, c79, c80, c81, c82, c83, c84, c85, c86, c87, c88, c89, c90, c91, c92, c93], []⟩ Wa := by
  have GT := C.get bo cap b Wa (hb.below hB (Nat.le_refl _)) hbc hbn hbl
  have HC : Hid Tok := C
  have HGW : Hid (HG w) := hg
  have HIB : Hid (∀ W, Below w.heap.size w W → IsB W bo b) := fun W h => hb.below h (Nat.le_refl _)
  have HBL : Hid (b.length ≤ 140737488351232) := hbl
  have HBA : Hid (Below w.heap.size w Wa) := hB
  clear hb hbl hbc C hg hbn hB
  conv => arg 2; whnf
  cases hq : getR b with
  | error r =>
    obtain ⟨E, A⟩ := r
    have HW : Hid (A ≤ b.length ∧ (E = 5 ∨ E = 6 ∨ E = 7)) := get_wrong hq
    have G1 : Calls Tryd.prog 11 #[.slice bo b.length cap] Wa fun e w' => Below Wa.heap.size Wa w' ∧ ∃ ge, TkA tk0 (.iface 82 (.pointer (some ⟨ge, 0, none⟩))) Wa e w' ∧ Row w' ge 83 [.int .i64 (E : Int), .int .i64 (A : Int)] := GT.mono fun e w' ⟨h1, h2, _⟩ => ⟨h1, h2 E A hq⟩
    clear GT hq HIB
    generalize b.length = n at *
    go_wp2_with fail
    refine G1.mono ?_
    clear G1
    rintro e w2 ⟨hb2, ge, ⟨io2, ic2, lo2, lc2, rfl, ho2⟩, hge⟩
    dsimp only
    have HB2 : Hid (Below w.heap.size w w2) := HBA.out.trans (hb2.mono HBA.out.size)
    have HO2 : Hid (TkO 64 Wa.heap.size w2 tk0 io2 ic2 lo2 lc2) := ho2
    have TD : Hid (∀ W, Below w2.heap.size w2 W → Calls Tryd.prog 13 #[.iface 82 (.pointer (some ⟨ge, 0, none⟩))] W fun e w' => e = .returned (.tuple #[.agg #[.int .i64 (E : Int), .int .i64 (A : Int)], .bool true]) ∧ Below W.heap.size W w') := fun W hb => told24_wrong W ge E A (by have := HW.out.2; omega) (HGW.out.below (HB2.out.trans (hb.mono HB2.out.size)) HGW.out.lt) (hge.below hb hge.lt)
    clear hb2 ho2 hge HBA
    go_wp2_with (first
      | (have hz := HO2; clear hz; refine wpList_store_Row rfl 36 (.tmp 9) (.tmp 52) rfl w2.heap.size 36 0 zTk (tkCells tk0 io2 ic2 lo2 lc2) (zRow w2) (by rw [tkCells_len HO2.out.tag]; exact Nat.le_refl _) rfl rfl (by rw [tkCells_len HO2.out.tag]; kernel_rfl) (tkCells_one _ _ _ _ _) ?_; intro w3 hr hs; have HR2 : Hid (TkR Wa.heap.size w3 w2.heap.size tk0 io2 ic2 lo2 lc2 ∧ Below w2.heap.size w2 w3) := tkR_lay HO2.out hr hs; clear HO2 hr hs)
      | (have hz := HR2; clear hz; have HB3 : Hid (Below w.heap.size w w3) := HB2.out.trans (HR2.out.2.mono HB2.out.size); have HX3 : Hid (TkR Wa.heap.size w3 w2.heap.size tk0 io2 ic2 lo2 lc2) := HR2.out.1; have TD2 := TD.out w3 HR2.out.2; clear HR2 HB2 TD))
    refine TD2.mono ?_
    clear TD2
    rintro e w4 ⟨rfl, hb4⟩
    dsimp only
    have HB4 : Hid (Below w.heap.size w w4) := HB3.out.trans (hb4.mono HB3.out.size)
    have HX4 : Hid (TkR Wa.heap.size w4 w2.heap.size tk0 io2 ic2 lo2 lc2) := HX3.out.keep hb4
    obtain ⟨W5, hW5⟩ : ∃ W5, W5 = w4.alloc (.cells #[.int .i64 0, .int .i64 0] 44) := ⟨_, rfl⟩
    have b5 : Below w4.heap.size w4 W5 := by rw [hW5]; exact (Below.refl _ _).alloc (Nat.le_refl _) _
    have z5 : Row W5 w4.heap.size 44 [.int .i64 0, .int .i64 0] := by rw [hW5]; exact Row.at w4 _ _ _ _ rfl rfl
    have Z5 : Hid (Row W5 w4.heap.size 44 [.int .i64 0, .int .i64 0]) := z5
    have FIN : Hid (∀ w6, Row w6 w4.heap.size 44 ([Value.int .i64 0, .int .i64 0].take 0 ++ [.int .i64 (E : Int), .int .i64 (A : Int)] ++ [Value.int .i64 0, .int .i64 0].drop (0 + [Value.int .i64 (E : Int), .int .i64 (A : Int)].length)) → SameBut w4.heap.size W5 w6 → Row w6 w4.heap.size 44 [.int .i64 (E : Int), .int .i64 (A : Int)] ∧ Row w6 w2.heap.size 36 (tkCells tk0 io2 ic2 lo2 lc2) ∧ TkV w6 tk0 io2 ic2 lo2 lc2 ∧ Below w.heap.size w w6) := fun w6 hr hs => by
      have hb6 : Below w4.heap.size w4 w6 := hs.below b5 (Nat.le_refl _)
      exact ⟨hr, HX4.out.row.below hb6 HX4.out.row.lt, HX4.out.own.v.keep hb6, HB4.out.trans (hb6.mono HB4.out.size)⟩
    have y1 : (0 : Int) ≤ (A : Int) := by omega
    have y2 : (A : Int) ≤ (n : Int) := by have := HW.out.1; omega
    have BKC : Hid (∀ W, TkV W tk0 io2 ic2 lo2 lc2 → Calls Tryd.prog 15 #[.agg (tkCells tk0 io2 ic2 lo2 lc2).toArray] W (BackP tk0 io2 ic2 W)) := fun W h => l24back_any tk0 io2 ic2 lo2 lc2 W h (by decide)
    have SMC : Hid (∀ W lo lc, TkV W tk0 io2 ic2 lo lc → Calls Tryd.prog 14 #[.agg (tkCells tk0 io2 ic2 lo lc).toArray, .agg zTk.toArray] W fun e w' => e = .returned (.bool true) ∧ Below W.heap.size W w') := fun W lo lc h => r24Same_any tk0 tk0 io2 ic2 lo lc none 0 none 0 W h (tk0_v W) (by decide) true (by simp)
    have BZ := build_tkz
    clear hb4 HB3 HX3 HX4 HB4 b5 z5 HW HC HGW
    go_wp2_with (first
      | (have hz := hW5; clear hz; refine wpList_at24 hW5 ?_; clear hW5)
      | (have hz := Z5; clear hz; refine wpList_store_Row rfl 44 (.tmp 11) (.tmp 59) rfl w4.heap.size 44 0 _ [.int .i64 (E : Int), .int .i64 (A : Int)] Z5.out (Nat.le_refl _) rfl rfl (by kernel_rfl) (by simp [Value.oneCell']) ?_; intro w6 hr hs; have HF : Hid _ := FIN.out w6 hr hs; have x1 := HF.out.1.cell 1 _ rfl; clear Z5 hr hs FIN)
      | (have hz := HF; clear hz; refine wpList_load_part_g ?_ 36 (.tmp 9) rfl w2.heap.size 0 36 35 _ HF.out.2.1 rfl _ (tkCells tk0 io2 ic2 lo2 lc2) rfl rfl Tryd.underlying36 rfl (by kernel_rfl) ?_; · rfl)
      | (go_at_call 15; refine (BKC.out w6 HF.out.2.2.1).mono ?_; clear BKC; rintro e w7 ⟨lo7, lc7, rfl, hv7, hb7⟩; dsimp only; have SM2 := SMC.out w7 lo7 lc7 hv7; have HB7 : Hid (Below w.heap.size w w7) := HF.out.2.2.2.trans (hb7.mono HF.out.2.2.2.size); clear hv7 hb7 SMC)
      | (go_at_call 14; refine SM2.mono ?_; clear SM2; rintro e w8 ⟨rfl, hb8⟩; dsimp only; have HB8 : Hid (Below w.heap.size w w8) := HB7.out.trans (hb8.mono HB7.out.size); clear hb8 HB7))
    go_ret
    exact ⟨rfl, HB8.out⟩
  | ok x =>
    have HX : Hid (tkMay x = true ∧ tkB x = b ∧ x.tag.length = 32 ∧ ∀ c ∈ x.cs, c.z < 18446744073709551616) := put_get hq
    have HS : Hid (x.id.length ≤ 64 ∧ x.cs.length ≤ 32) := getR_short hq
    have G1 : Calls Tryd.prog 11 #[.slice bo b.length cap] Wa fun e w' => Below Wa.heap.size Wa w' ∧ TkA x .nilIface Wa e w' := GT.mono fun e w' ⟨h1, _, h2⟩ => ⟨h1, h2 x hq⟩
    clear GT hq
    go_wp2_with fail
    refine G1.mono ?_
    clear G1
    rintro e w2 ⟨hb2, io2, ic2, lo2, lc2, rfl, ho2⟩
    dsimp only
    have HB2 : Hid (Below w.heap.size w w2) := HBA.out.trans (hb2.mono HBA.out.size)
    have HO2 : Hid (TkO 64 Wa.heap.size w2 x io2 ic2 lo2 lc2) := ho2
    have P1 : Hid (∀ W, TkV W x io2 ic2 lo2 lc2 → Calls Tryd.prog 8 #[.agg (tkCells x io2 ic2 lo2 lc2).toArray] W fun e w' => Below W.heap.size W w' ∧ ∃ ao c', e = .returned (.tuple #[.slice ao b.length c', .int .i64 0]) ∧ Own W.heap.size w' (.slice ao b.length c') b) := fun W h => (HC.out.put x io2 ic2 lo2 lc2 W h (by have := HS.out.2; omega)).mono fun e w' ⟨h1, h2⟩ => ⟨h1, by rw [if_pos HX.out.1, HX.out.2.1] at h2; exact h2⟩
    clear hb2 ho2 HBA
    go_wp2_with (first
      | (have hz := HO2; clear hz; refine wpList_store_Row rfl 36 (.tmp 9) (.tmp 52) rfl w2.heap.size 36 0 zTk (tkCells x io2 ic2 lo2 lc2) (zRow w2) (by rw [tkCells_len HO2.out.tag]; exact Nat.le_refl _) rfl rfl (by rw [tkCells_len HO2.out.tag]; kernel_rfl) (tkCells_one _ _ _ _ _) ?_; intro w3 hr hs; have HR2 : Hid (TkR Wa.heap.size w3 w2.heap.size x io2 ic2 lo2 lc2 ∧ Below w2.heap.size w2 w3) := tkR_lay HO2.out hr hs; clear HO2 hr hs)
      | (have hz := HR2; clear hz; have HB3 : Hid (Below w.heap.size w w3) := HB2.out.trans (HR2.out.2.mono HB2.out.size); have HX3 : Hid (TkR Wa.heap.size w3 w2.heap.size x io2 ic2 lo2 lc2) := HR2.out.1; clear HR2 HB2)
      | (have hz := HX3; clear hz; refine wpList_load_Row rfl 36 (.tmp 9) rfl w2.heap.size 36 (tkCells x io2 ic2 lo2 lc2) HX3.out.row rfl _ Tryd.underlying36 rfl (by rw [tkCells_len HX3.out.own.tag]; kernel_rfl) ?_))
    refine (P1.out w3 HX3.out.own.v).mono ?_
    clear P1
    rintro e w4 ⟨hb4, ao4, c4, rfl, ho4⟩
    dsimp only
    have HB4 : Hid (Below w.heap.size w w4) := HB3.out.trans (hb4.mono HB3.out.size)
    have cv1 := conv_bytes w4 ao4 b.length c4 b rfl (own_IsB ho4)
    have cv2 := conv_bytes w4 bo b.length cap b rfl (HIB.out w4 HB4.out)
    clear hb4 ho4 HB3 HX3 HX HS HIB HC HGW
    generalize strOf b = Sb at *
    have e1 : (Sb.toList == Sb.toList) = true := by simp
    generalize b.length = n at *
    go_wp2
    go_ret
    exact ⟨rfl, HB4.out⟩
set_option maxHeartbeats 4000000 in
theorem returns24_any (C : Tok) (w : World) (hg : HG w) (t : Tk) (io : Option Addr) (ic : Nat) (lo : Option Addr) (lc : Nat) (hv : TkV w t io ic lo lc) (bo : Option Addr) (cap : Nat) (b : List By) (hb : IsB w bo b) (hbc : b.length ≤ cap) (hbn : bo = none → cap = 0) (hbl : b.length ≤ 140737488351232) :
    Calls Tryd.prog 5 #[.agg (tkCells t io ic lo lc).toArray, .slice bo b.length cap] w (OkP w) := by
  have NXT : Hid (∀ c0 c2 c3 c4 c5 c6 c7 c8 c9 c10 c11 c12 c13 c14 c15 c16 c17 c18 c19 c20 c21 c22 c23 c24 c25 c26 c27 c28 c29 c30 c31 c32 c33 c34 c35 c36 c37 c38 c39 c40 c41 c42 c43 c44 c45 c46 c47 c48 c49 c50 c51 c52 c53 c54 c55 c56 c57 c58 c59 c60 c61 c62 c63 c64 c65 c66 c67 c68 c69 c70 c71 c72 c73 c74 c75 c76 c77 c78 c79 c80 c81 c82 c83 c84 c85 c86 c87 c88 c89 c90 c91 c92 c93 W, Below w.heap.size w W → Code.wp Tryd.prog (dropS 5 (Tryd.f5.body.getD .skip)) (bodyPost Tryd.prog Tryd.f5 (OkP w)) ⟨#[c0, .slice bo b.length cap, c2, c3, c4, c5, c6, c7, c8, c9, c10, c11, c12, c13, c14, c15, c16, c17, c18, c19, c20, c21, c22, c23, c24, c25, c26, c27, c28, c29, c30, c31, c32, c33, c34, c35, c36, c37, c38, c39, c40, c41, c42, c43, c44, c45, c46, c47, c48, c49, c50, c51, c52, c53, c54, c55, c56, c57, c58, c59, c60, c61, c62, c63, c64, c65, c66, c67, c68, c69, c70, c71, c72, c73, c74, c75, c76, c77, c78, c79, c80, c81, c82, c83, c84, c85, c86, c87, c88, c89, c90, c91, c92, c93], []⟩ W) := fun c0 c2 c3 c4 c5 c6 c7 c8 c9 c10 c11 c12 c13 c14 c15 c16 c17 c18 c19 c20 c21 c22 c23 c24 c25 c26 c27 c28 c29 c30 c31 c32 c33 c34 c35 c36 c37 c38 c39 c40 c41 c42 c43 c44 c45 c46 c47 c48 c49 c50 c51 c52 c53 c54 c55 c56 c57 c58 c59 c60 c61 c62 c63 c64 c65 c66 c67 c68 c69 c70 c71 c72 c73 c74 c75 c76 c77 c78 c79 c80 c81 c82 c83 c84 c85 c86 c87 c88 c89 c90 c91 c92 c93 W h => ret5 c0 c2 c3 c4 c5 c6 c7 c8 c9 c10 c11 c12 c13 c14 c15 c16 c17 c18 c19 c20 c21 c22 c23 c24 c25 c26 c27 c28 c29 c30 c31 c32 c33 c34 c35 c36 c37 c38 c39 c40 c41 c42 c43 c44 c45 c46 c47 c48 c49 c50 c51 c52 c53 c54 c55 c56 c57 c58 c59 c60 c61 c62 c63 c64 c65 c66 c67 c68 c69 c70 c71 c72 c73 c74 c75 c76 c77 c78 c79 c80 c81 c82 c83 c84 c85 c86 c87 c88 c89 c90 c91 c92 c93 C w W hg h bo cap b hb hbc hbn hbl
  obtain ⟨T, hT⟩ : ∃ T, T = tkCells t io ic lo lc := ⟨_, rfl⟩
  have LT : Hid (T.length = 35) := by rw [hT]; exact tkC_len hv.tag
  obtain ⟨W1, hW1⟩ : ∃ W1, W1 = w.alloc (.cells T.toArray 28) := ⟨_, rfl⟩
  have r1 : Row W1 w.heap.size 28 T := by rw [hW1]; exact Row.at w _ _ _ _ rfl rfl
  have b1 : Below w.heap.size w W1 := by rw [hW1]; exact (Below.refl _ _).alloc (Nat.le_refl _) _
  have AW := awake24_any C W1 (hg.below b1 hg.lt)
  have HB1 : Hid (Below w.heap.size w W1) := b1
  have RT : Hid (∀ W, Below W1.heap.size W1 W → Row W w.heap.size 28 T) := fun W h => r1.below h r1.lt
  have VT : Hid (∀ W, Below W1.heap.size W1 W → TkV W t io ic lo lc) := fun W h => (hv.keep b1).keep h
  have HC : Hid Tok := C
  have HT : Hid (tkCells t io ic lo lc = T) := hT.symm
  have HV : Hid (TkV w t io ic lo lc) := hv
  rw [← hT]
  clear hT r1 b1 hv C hg hb hbc hbn hbl
  generalize b.length = n at *
  go_enter Tryd.func5, Tryd.ntmps5
  refine wp_seq_k fun K hK => ?_
  have HK : Hid _ := hK
  clear hK
  go_wp2
  refine HK.out _ _ ?_
  clear HK
  refine wp_at24 hW1 ?_
  clear hW1
  refine wp_seq_k fun K hK => ?_
  have HK : Hid _ := hK
  clear hK
  go_wp2_with fail
  refine AW.mono ?_
  clear AW
  rintro e w2 ⟨rfl, hb2⟩
  dsimp only
  have HB2 : Hid (Below W1.heap.size W1 w2) := hb2
  have R2 := RT.out w2 hb2
  have FW : Calls Tryd.prog 7 #[.agg T.toArray] w2 fun e w' => e = .returned (.bool (decide (t.cs.length ≤ 65536))) ∧ Below w2.heap.size w2 w' := by rw [← HT.out]; exact r24Few_any t io ic lo lc w2
  clear hb2
  go_wp2
  refine HK.out _ _ ?_
  clear HK
  refine wp_seq_k fun K hK => ?_
  have HK : Hid _ := hK
  clear hK
  by_cases hf : t.cs.length ≤ 65536
  · rw [decide_eq_true hf] at FW
    have HFW : Hid (t.cs.length ≤ 65536) := hf
    clear hf
    go_wp2_with (first
      | (have hz := R2; clear hz; refine wpList_load_Row rfl 28 (.tmp 2) rfl w.heap.size 28 T R2 rfl _ Tryd.underlying28 rfl (by rw [LT.out]; kernel_rfl) ?_; clear R2))
    refine FW.mono ?_
    clear FW
    rintro e w3 ⟨rfl, hb3⟩
    dsimp only
    have HB3 : Hid (Below W1.heap.size W1 w3) := HB2.out.trans (hb3.mono HB2.out.size)
    have R3 := RT.out w3 HB3.out
    have OF : Calls Tryd.prog 9 #[.agg T.toArray] w3 (OfP t w3) := by rw [← HT.out]; exact l24of_any t io ic lo lc w3 (VT.out w3 HB3.out) HFW.out
    clear hb3 HB2
    go_wp2
    refine HK.out _ _ ?_
    clear HK
    refine wp_seq_k fun K hK => ?_
    have HK : Hid _ := hK
    clear hK
    go_wp2_with (first
      | (have hz := R3; clear hz; refine wpList_load_Row rfl 28 (.tmp 2) rfl w.heap.size 28 T R3 rfl _ Tryd.underlying28 rfl (by rw [LT.out]; kernel_rfl) ?_; clear R3))
    refine OF.mono ?_
    clear OF
    rintro e w4 ⟨G, c4, H, rfl, ho4, hr4, hH, hb4⟩
    dsimp only
    have HB4 : Hid (Below W1.heap.size W1 w4) := HB3.out.trans (hb4.mono HB3.out.size)
    have PU := HC.out.put t _ _ _ _ w4 (of_tkv HV.out ho4 hr4) (by have := HFW.out; omega)
    clear ho4 hr4 hH hb4 HB3
    cases hm : tkMay t with
    | false =>
      have PF : Calls Tryd.prog 8 #[.agg (tkC t.key (some ⟨G, 0, none⟩) t.id.length c4 (some ⟨H, 0, none⟩) t.cs.length (t.cs.length + 2) t.tag).toArray] w4 fun e w' => Below w4.heap.size w4 w' ∧ e = .returned (.tuple #[.slice none 0 0, .int .i64 5]) := PU.mono fun e w' ⟨h1, h2⟩ => ⟨h1, by rw [hm] at h2; exact h2⟩
      clear PU hm
      generalize tkC t.key (some ⟨G, 0, none⟩) t.id.length c4 (some ⟨H, 0, none⟩) t.cs.length (t.cs.length + 2) t.tag = D at *
      go_wp2_with fail
      refine PF.mono ?_
      clear PF
      rintro e w5 ⟨hb5, rfl⟩
      dsimp only
      have HB5 : Hid (Below w.heap.size w w5) := HB1.out.trans ((HB4.out.trans (hb5.mono HB4.out.size)).mono HB1.out.size)
      clear hb5
      go_wp2
      refine HK.out _ _ ?_
      clear HK
      refine wp_seq_k fun K hK => ?_
      have HK : Hid _ := hK
      clear hK
      go_wp2
      refine HK.out _ _ ?_
      exact NXT.out _ _ _ _ _ _ _ _ _ _ _ _ _ _ _ _ _ _ _ _ _ _ _ _ _ _ _ _ _ _ _ _ _ _ _ _ _ _ _ _ _ _ _ _ _ _ _ _ _ _ _ _ _ _ _ _ _ _ _ _ _ _ _ _ _ _ _ _ _ _ _ _ _ _ _ _ _ _ _ _ _ _ _ _ _ _ _ _ _ _ _ _ _ w5 HB5.out
    | true =>
      have HMY : Hid (tkMay t = true) := hm
      have PT : Calls Tryd.prog 8 #[.agg (tkC t.key (some ⟨G, 0, none⟩) t.id.length c4 (some ⟨H, 0, none⟩) t.cs.length (t.cs.length + 2) t.tag).toArray] w4 fun e w' => Below w4.heap.size w4 w' ∧ ∃ ao c', e = .returned (.tuple #[.slice ao (tkB t).length c', .int .i64 0]) ∧ Own w4.heap.size w' (.slice ao (tkB t).length c') (tkB t) := PU.mono fun e w' ⟨h1, h2⟩ => ⟨h1, by rw [if_pos hm] at h2; exact h2⟩
      clear PU hm
      generalize tkC t.key (some ⟨G, 0, none⟩) t.id.length c4 (some ⟨H, 0, none⟩) t.cs.length (t.cs.length + 2) t.tag = D at *
      go_wp2_with fail
      refine PT.mono ?_
      clear PT
      rintro e w5 ⟨hb5, ao5, c5, rfl, ho5⟩
      dsimp only
      have HB5 : Hid (Below W1.heap.size W1 w5) := HB4.out.trans (hb5.mono HB4.out.size)
      have hl := tkB_len HV.out.tag
      have hmp := tkMay_parts HMY.out
      have GE : Calls Tryd.prog 11 #[.slice ao5 (tkB t).length c5] w5 fun e w' => Below w5.heap.size w5 w' ∧ TkA t .nilIface w5 e w' := (HC.out.get ao5 c5 (tkB t) w5 (own_IsB ho5) (own_cap ho5) (own_nilcap ho5) (by omega)).mono fun e w' ⟨h1, _, h2⟩ => ⟨h1, h2 t (get_put HMY.out (fun c hc => (HV.out.ok c hc).z) HV.out.tag)⟩
      clear hb5 ho5 hl hmp HB4
      generalize (tkB t).length = lb at *
      go_wp2
      refine HK.out _ _ ?_
      clear HK
      refine wp_seq_k fun K hK => ?_
      have HK : Hid _ := hK
      clear hK
      go_wp2_with fail
      refine GE.mono ?_
      clear GE
      rintro e w6 ⟨hb6, io6, ic6, lo6, lc6, rfl, ho6⟩
      dsimp only
      have HB6 : Hid (Below W1.heap.size W1 w6) := HB5.out.trans (hb6.mono HB5.out.size)
      have HO6 : Hid (TkO 64 w5.heap.size w6 t io6 ic6 lo6 lc6) := ho6
      clear hb6 ho6 HB5
      go_upto_region 8 with (first
        | (have hz := HO6; clear hz; refine wpList_store_Row rfl 36 (.tmp 7) (.tmp 31) rfl w6.heap.size 36 0 zTk (tkCells t io6 ic6 lo6 lc6) (zRow w6) (by rw [tkCells_len HO6.out.tag]; exact Nat.le_refl _) rfl rfl (by rw [tkCells_len HO6.out.tag]; kernel_rfl) (tkCells_one _ _ _ _ _) ?_; intro w7 hr hs; have HR6 : Hid (TkR w5.heap.size w7 w6.heap.size t io6 ic6 lo6 lc6 ∧ Below w6.heap.size w6 w7) := tkR_lay HO6.out hr hs; clear HO6 hr hs)
        | (have hz := HR6; clear hz; have HB7 : Hid (Below W1.heap.size W1 w7) := HB6.out.trans (HR6.out.2.mono HB6.out.size); have HX7 : Hid (TkR w5.heap.size w7 w6.heap.size t io6 ic6 lo6 lc6) := HR6.out.1; clear HR6 HB6))
      obtain ⟨X, hX0⟩ : ∃ X, X = tkCells t io6 ic6 lo6 lc6 := ⟨_, rfl⟩
      have LX : Hid (X.length = 35) := by rw [hX0]; exact tkC_len HV.out.tag
      have XP : Hid ((X.drop 0).take 35 = X) := by show _ = _; rw [List.drop_zero, List.take_of_length_le (by rw [LX.out]; exact Nat.le_refl _)]
      have TP : Hid ((T.drop 0).take 35 = T) := by show _ = _; rw [List.drop_zero, List.take_of_length_le (by rw [LT.out]; exact Nat.le_refl _)]
      have RX : Hid (∀ W, Below w7.heap.size w7 W → Row W w6.heap.size 36 X) := fun W h => by rw [hX0]; exact HX7.out.row.below h HX7.out.row.lt
      have RY : Hid (∀ W, Below w7.heap.size w7 W → Row W w.heap.size 28 T) := fun W h => RT.out W (HB7.out.trans (h.mono HB7.out.size))
      have BKC : Hid (∀ W, Below w7.heap.size w7 W → Calls Tryd.prog 15 #[.agg X.toArray] W (BackP t io6 ic6 W)) := fun W h => by rw [hX0]; exact l24back_any t io6 ic6 lo6 lc6 W (HX7.out.own.v.keep h) (by have := HFW.out; omega)
      have SMC : Hid (∀ W lo9 lc9, Below w7.heap.size w7 W → TkV W t io6 ic6 lo9 lc9 → Calls Tryd.prog 14 #[.agg (tkCells t io6 ic6 lo9 lc9).toArray, .agg T.toArray] W fun e w' => e = .returned (.bool true) ∧ Below W.heap.size W w') := fun W lo9 lc9 h hv => by rw [← HT.out]; exact r24Same_any t t io6 ic6 lo9 lc9 io ic lo lc W hv (VT.out W (HB7.out.trans (h.mono HB7.out.size))) (by have := HFW.out; omega) true (by simp)
      have NX2 : Hid (∀ W, Below w7.heap.size w7 W → Below w.heap.size w W) := fun W h => HB1.out.trans ((HB7.out.trans (h.mono HB7.out.size)).mono HB1.out.size)
      clear hX0
      generalize w6.heap.size = G7 at *
      refine wp_region_inv (IRE8 w7 t io6 ic6 T X _ _ _ _ _ _ _ _ _ _ _ _ _ _ _ _ _ _ _ _ _ _ _ _ _ _ _ _ _ _ _ _ _ _ _ _ _ _ _ _ _ _ _ _ _ _ _ _ _ _ _ _ _ _ _ _ _ _ _ _ _ _ _ _ _ _ _ _ _ _ _ _ _ _ _ _ _ _ _ _ _ _ _ _ _) (by kernel_rfl) (by kernel_rfl) ⟨_, _, _, _, _, _, _, _, _, rfl, ⟨BS.zero _ _ _ _ _, fun k => (by cases k), fun k => (by cases k), fun k => (by cases k), fun k => (by cases k), fun k => (by cases k), fun k => (by cases k), fun k => (by cases k), fun k => (by cases k)⟩⟩ ?_ ?_
      · refine .cons ?_ (.cons ?_ (.cons ?_ (.cons ?_ (.cons ?_ (.cons ?_ (.cons ?_ (.cons ?_ (.cons ?_ .nil))))))))
        all_goals (refine RE8.step ?_; intro x33 x34 x35 x36 x37 x38 x39 x40 x41 L W hI hL hd K hK)
        · rw [if_pos (by rfl)]
          go_simp
          exact hK.out _ _ ⟨_, _, _, _, _, _, _, _, _, rfl, hI.s0⟩
        · have hx0 := hI.p0 (hd 0 (by decide))
          subst hx0
          rw [if_pos (by rfl)]
          go_simp
          exact hK.out _ _ ⟨_, _, _, _, _, _, _, _, _, rfl, hI.s1⟩
        · have hx1 := hI.p1 (hd 1 (by decide))
          subst hx1
          rw [if_pos (by rfl)]
          go_simp
          exact hK.out _ _ ⟨_, _, _, _, _, _, _, _, _, rfl, hI.s2⟩
        · have hx2 := hI.p2 (hd 2 (by decide))
          subst hx2
          refine step_load_part (by rfl) 36 _ rfl G7 0 36 35 X (RX.out W hI.x.bel) rfl _ X XP.out LX.out Tryd.underlying36 rfl (by kernel_rfl) ?_
          exact hK.out _ _ ⟨_, _, _, _, _, _, _, _, _, rfl, hI.s3⟩
        · have hx3 := hI.p3 (hd 3 (by decide))
          subst hx3
          have hx2 := hI.p2 (hd 2 (by decide))
          subst hx2
          rw [if_pos (by rfl)]
          go_simp
          refine (BKC.out W hI.x.bel).mono ?_
          rintro e W2 ⟨lo9, lc9, rfl, hv9, hb9⟩
          go_simp
          have hX := hI.x.s hb9 hv9 (q' := true)
          exact hK.out _ _ ⟨_, _, _, _, _, _, _, _, _, rfl, hI.s4 hX⟩
        · have hx2 := hI.p2 (hd 2 (by decide))
          subst hx2
          refine step_load_part (by rfl) 28 _ rfl w.heap.size 0 28 35 T (RY.out W hI.x.bel) rfl _ T TP.out LT.out Tryd.underlying28 rfl (by kernel_rfl) ?_
          exact hK.out _ _ ⟨_, _, _, _, _, _, _, _, _, rfl, hI.s5⟩
        · have hx5 := hI.p5 (hd 5 (by decide))
          subst hx5
          have hx2 := hI.p2 (hd 2 (by decide))
          subst hx2
          rw [if_pos (by rfl)]
          go_simp
          obtain ⟨lo9, lc9, e9, hv9⟩ := hI.x.p (hd 4 (by decide))
          subst e9
          refine (SMC.out W lo9 lc9 hI.x.bel hv9).mono ?_
          rintro e W2 ⟨rfl, hb9⟩
          go_simp
          have hX := hI.x.keep hb9
          exact hK.out _ _ ⟨_, _, _, _, _, _, _, _, _, rfl, hI.s6 hX⟩
        · have hx6 := hI.p6 (hd 6 (by decide))
          subst hx6
          have hx2 := hI.p2 (hd 2 (by decide))
          subst hx2
          rw [if_pos (by rfl)]
          go_simp
          exact hK.out _ _ ⟨_, _, _, _, _, _, _, _, _, rfl, hI.s7⟩
        · have hx2 := hI.p2 (hd 2 (by decide))
          subst hx2
          have hx7 := hI.p7 (hd 7 (by decide))
          subst hx7
          rw [if_pos (by rfl)]
          go_simp
          exact hK.out _ _ ⟨_, _, _, _, _, _, _, _, _, rfl, hI.s8⟩
      · refine RE8.ends ?_; intro x33 x34 x35 x36 x37 x38 x39 x40 x41 L W hall hI
        have hx0 := hI.p0 (hall 0 (by decide))
        subst hx0
        have hx1 := hI.p1 (hall 1 (by decide))
        subst hx1
        have hx2 := hI.p2 (hall 2 (by decide))
        subst hx2
        have hx3 := hI.p3 (hall 3 (by decide))
        subst hx3
        have hx5 := hI.p5 (hall 5 (by decide))
        subst hx5
        have hx6 := hI.p6 (hall 6 (by decide))
        subst hx6
        have hx7 := hI.p7 (hall 7 (by decide))
        subst hx7
        have hx8 := hI.p8 (hall 8 (by decide))
        subst hx8
        have hXe := hI.x
        rw [hall 4 (by decide)] at hXe
        clear hI hall
        try dsimp only
        have HX8 : Hid (Below w.heap.size w W) := NX2.out W hXe.bel
        clear hXe
        go_wp2
        refine HK.out _ _ ?_
        exact NXT.out _ _ _ _ _ _ _ _ _ _ _ _ _ _ _ _ _ _ _ _ _ _ _ _ _ _ _ _ _ _ _ _ _ _ _ _ _ _ _ _ _ _ _ _ _ _ _ _ _ _ _ _ _ _ _ _ _ _ _ _ _ _ _ _ _ _ _ _ _ _ _ _ _ _ _ _ _ _ _ _ _ _ _ _ _ _ _ _ _ _ _ _ _ W HX8.out
  · rw [decide_eq_false hf] at FW
    clear hf
    go_wp2_with (first
      | (have hz := R2; clear hz; refine wpList_load_Row rfl 28 (.tmp 2) rfl w.heap.size 28 T R2 rfl _ Tryd.underlying28 rfl (by rw [LT.out]; kernel_rfl) ?_; clear R2))
    refine FW.mono ?_
    clear FW
    rintro e w3 ⟨rfl, hb3⟩
    dsimp only
    have HB3 : Hid (Below w.heap.size w w3) := HB1.out.trans ((HB2.out.trans (hb3.mono HB2.out.size)).mono HB1.out.size)
    clear hb3
    go_wp2
    go_ret
    exact ⟨rfl, HB3.out⟩
end Go.Proofs.YtjooabgjkjnhhaaDoor
