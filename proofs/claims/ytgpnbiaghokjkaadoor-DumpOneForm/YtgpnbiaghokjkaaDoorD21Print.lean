
import Derived.Test.YtgpnbiaghokjkaaDoorD21Hex
import Derived.Test.YtgpnbiaghokjkaaDoorD21Fits
/-! Layer 21, the document's answer: Print. (Printed by tools/gend21.py.) -/
namespace Go.Proofs.YtgpnbiaghokjkaaDoor
open Go.RowKit
set_option linter.unusedVariables false
set_option linter.unusedSimpArgs false
set_option maxRecDepth 100000

theorem trues_app : ∀ (b : List Bool) (x : Bool) (i : Nat), trues (b ++ [x]) i = trues b i ++ (if x then [i + b.length] else [])
  | [], x, i => by
    rw [List.nil_append, trues, trues]
    cases x <;> rfl
  | y :: b, x, i => by
    have e : i + 1 + b.length = i + (b.length + 1) := by omega
    rw [List.cons_append, trues, trues, trues_app b x (i + 1), e, List.length_cons]
    cases y <;> rfl
theorem take_snoc {α : Type} (l : List α) (i : Nat) (d : α) (hi : i < l.length) : l.take (i + 1) = l.take i ++ [l.getD i d] := by
  rw [List.take_add_one, List.getElem?_eq_getElem hi, List.getD_eq_getElem?_getD, List.getElem?_eq_getElem hi]; rfl
theorem trues_step (b : List Bool) (i : Nat) (hi : i < b.length) : numsL (trues (b.take (i + 1)) 0) = numsL (trues (b.take i) 0) ++ (if b.getD i false then 32#8 :: num i else []) := by
  have hl : (b.take i).length = i := by rw [List.length_take]; omega
  rw [take_snoc b i false hi, trues_app, hl, Nat.zero_add]
  unfold numsL
  rw [List.flatMap_append]
  cases b.getD i false <;> simp
theorem cellsL_app : ∀ (g : List (List By)) (x : List By) (k : Nat), cellsL (g ++ [x]) k = cellsL g k ++ (if x = List.replicate 32 255#8 then [] else cellL (k + g.length) x)
  | [], x, k => by
    rw [List.nil_append, cellsL, cellsL, cellsL]
    simp
  | y :: g, x, k => by
    have e : k + 1 + g.length = k + (g.length + 1) := by omega
    rw [List.cons_append, cellsL, cellsL, cellsL_app g x (k + 1), e, List.length_cons, List.append_assoc]
theorem cells_step (g : List (List By)) (i : Nat) (hi : i < g.length) : cellsL (g.take (i + 1)) 0 = cellsL (g.take i) 0 ++ (if g.getD i [] = List.replicate 32 255#8 then [] else cellL i (g.getD i [])) := by
  have hl : (g.take i).length = i := by rw [List.length_take]; omega
  rw [take_snoc g i [] hi, cellsL_app, hl, Nat.zero_add]
theorem pagesL_app : ∀ (gs : List (List (List By))) (g : List (List By)) (es : List Int) (k : Nat), pagesL (gs ++ [g]) es k = pagesL gs es k ++ (headL (k + gs.length) (es.getD gs.length 0) ++ cellsL g 0)
  | [], g, es, k => by
    rw [List.nil_append, pagesL, pagesL, pagesL]
    cases es <;> simp
  | y :: gs, g, es, k => by
    have e : k + 1 + gs.length = k + (gs.length + 1) := by omega
    have e2 : es.tail.getD gs.length 0 = es.getD (gs.length + 1) 0 := by cases es <;> simp
    rw [List.cons_append, pagesL, pagesL, pagesL_app gs g es.tail (k + 1), e, List.length_cons, e2]
    simp only [List.append_assoc]
theorem pages_step (gs : List (List (List By))) (es : List Int) (p : Nat) (hp : p < gs.length) : pagesL (gs.take (p + 1)) es 0 = pagesL (gs.take p) es 0 ++ (headL p (es.getD p 0) ++ cellsL (gs.getD p []) 0) := by
  have hl : (gs.take p).length = p := by rw [List.length_take]; omega
  rw [take_snoc gs p [] hp, pagesL_app, hl, Nat.zero_add]
theorem cellL_len (i : Nat) (x : List By) (hi : i < 9223372036854775808) (hx : x.length = 32) : (cellL i x).length ≤ 100 := by
  have := num_len hi
  unfold cellL
  simp only [List.length_append, List.length_cons, hexC_len, hx, wCell, List.length_nil]
  omega
theorem headL_len (p : Nat) (e : Int) (hp : p < 9223372036854775808) (he : e < 9223372036854775808) : (headL p e).length ≤ 50 := by
  have h1 := num_len hp
  have h2 := num_len (n := e.toNat) (by omega)
  unfold headL
  simp only [List.length_append, List.length_cons, wPage, List.length_nil]
  omega
theorem cellsL_len : ∀ (g : List (List By)) (k : Nat), k + g.length ≤ 1000000 → (∀ x ∈ g, x.length = 32) → (cellsL g k).length ≤ 100 * g.length
  | [], k, _, _ => Nat.le_refl _
  | x :: g, k, hk, h => by
    rw [List.length_cons] at hk
    have h1 := cellsL_len g (k + 1) (by omega) (fun y hy => h y (List.mem_cons_of_mem _ hy))
    have h2 := cellL_len k x (by omega) (h x (List.mem_cons_self ..))
    rw [cellsL, List.length_append, List.length_cons]
    split
    · show 0 + _ ≤ _; omega
    · omega

/-- Around an append of a string to a slice of its own that a variable holds. -/
structure ApS (N : Nat) (w : World) (ao : Option Addr) (n c : Nat) (m bs : List By) (la lf : Bool) (xa x6 : Value) (W : World) : Prop where
  bel : Below N w W
  sz : N ≤ W.heap.size
  z : lf = false → x6 = .slice ao n c
  o : la = false → Own N W (.slice ao n c) m
  r : la = true → ∃ ao' c', xa = .slice ao' (n + bs.length) c' ∧ Own N W (.slice ao' (n + bs.length) c') (m ++ bs)
  f : lf = true → x6 = xa
  c : lf = true → la = true
section
variable {N : Nat} {w : World} {ao : Option Addr} {n c : Nat} {m bs : List By} {la lf : Bool} {xa x6 : Value} {W : World}
theorem ApS.zero (hb : Below N w W) (ho : Own N W (.slice ao n c) m) : ApS N w ao n c m bs false false xa (.slice ao n c) W :=
  ⟨hb, ho.2, fun _ => rfl, fun _ => ho, tf rfl, tf rfl, tf rfl⟩
theorem ApS.call (h : ApS N w ao n c m bs la lf xa x6 W) {W2 : World} (h2 : Below W.heap.size W W2) : ApS N w ao n c m bs la lf xa x6 W2 :=
  ⟨h.bel.trans (h2.mono h.sz), Nat.le_trans h.sz h2.size, h.z, fun e => (h.o e).keep h2, fun e => by
    obtain ⟨ao', c', e1, ho⟩ := h.r e
    exact ⟨ao', c', e1, ho.keep h2⟩, h.f, h.c⟩
theorem ApS.app (h : ApS N w ao n c m bs la lf xa x6 W) (hl : la = false) (hf : lf = false) {W2 : World} {ao' : Option Addr} {c' : Nat} (ho : Own N W2 (.slice ao' (n + bs.length) c') (m ++ bs)) (hb : Below N w W2) : ApS N w ao n c m bs true lf (.slice ao' (n + bs.length) c') x6 W2 :=
  ⟨hb, ho.2, h.z, fun e => tf e rfl, fun _ => ⟨ao', c', rfl, ho⟩, tf hf, tf hf⟩
theorem ApS.fin (h : ApS N w ao n c m bs la lf xa x6 W) (hl : la = true) : ApS N w ao n c m bs la true xa xa W :=
  ⟨h.bel, h.sz, fun e => tf e rfl, h.o, h.r, fun _ => rfl, fun _ => hl⟩
end

structure Pr16 (W1 : World) (N : Nat) (w0 : World) (ao : Option Addr) (n c : Nat) (m BS : List By) (GS EB eo EL ec p en : Nat) (S52 S53 S54 S60 S61 : ByteArray) (L : Nat → Bool) (x50 x51 x52 x53 x54 x55 x56 x57 x58 x59 x60 x61 x62 x63 x6 : Value) (W : World) : Prop where
  x : ApS N w0 ao n c m BS (L 13) (L 14) x63 x6 W
  p0 : L 0 = true → x50 = .slice ao n c
  p1 : L 1 = true → x51 = .int .i64 (p : Int)
  p2 : L 2 = true → x52 = .string S52
  p3 : L 3 = true → x53 = .string S53
  p4 : L 4 = true → x54 = .string S54
  p5 : L 5 = true → x55 = .pointer (some ⟨GS, 1, none⟩)
  p6 : L 6 = true → x56 = .slice (some ⟨EB, eo, none⟩) EL ec
  p7 : L 7 = true → x57 = .int .i64 (p : Int)
  p8 : L 8 = true → x58 = .pointer (some ⟨EB, eo + p, none⟩)
  p9 : L 9 = true → x59 = .int .i64 (en : Int)
  p10 : L 10 = true → x60 = .string S60
  p11 : L 11 = true → x61 = .string S61
  p12 : L 12 = true → x62 = .string (strOf BS)
  c13_0 : L 13 = true → L 0 = true
section
variable {W1 : World} {N : Nat} {w0 : World} {ao : Option Addr} {n c : Nat} {m BS : List By} {GS EB eo EL ec p en : Nat} {S52 S53 S54 S60 S61 : ByteArray} {L : Nat → Bool} {x50 x51 x52 x53 x54 x55 x56 x57 x58 x59 x60 x61 x62 x63 x6 : Value} {W W2 : World}
end
@[reducible] def IPr16 (W1 : World) (N : Nat) (w0 : World) (ao : Option Addr) (n c : Nat) (m BS : List By) (GS EB eo EL ec p en : Nat) (S52 S53 S54 S60 S61 : ByteArray) (y0 y1 y2 y3 y4 y5 y7 y8 y9 y10 y11 y12 y13 y14 y15 y16 y17 y18 y19 y20 y21 y22 y23 y24 y25 y26 y27 y28 y29 y30 y31 y32 y33 y34 y35 y36 y37 y38 y39 y40 y41 y42 y43 y44 y45 y46 y47 y48 y49 y64 y65 y66 y67 y68 y69 y70 y71 y72 y73 y74 y75 y76 y77 y78 y79 y80 y81 y82 y83 y84 y85 y86 y87 y88 y89 y90 y91 y92 y93 y94 y95 y96 y97 y98 : Value) : (Nat → Bool) → Act → World → Prop := fun L a W => ∃ x50 x51 x52 x53 x54 x55 x56 x57 x58 x59 x60 x61 x62 x63 x6, a = ⟨#[y0, y1, y2, y3, y4, y5, x6, y7, y8, y9, y10, y11, y12, y13, y14, y15, y16, y17, y18, y19, y20, y21, y22, y23, y24, y25, y26, y27, y28, y29, y30, y31, y32, y33, y34, y35, y36, y37, y38, y39, y40, y41, y42, y43, y44, y45, y46, y47, y48, y49, x50, x51, x52, x53, x54, x55, x56, x57, x58, x59, x60, x61, x62, x63, y64, y65, y66, y67, y68, y69, y70, y71, y72, y73, y74, y75, y76, y77, y78, y79, y80, y81, y82, y83, y84, y85, y86, y87, y88, y89, y90, y91, y92, y93, y94, y95, y96, y97, y98], []⟩ ∧ Pr16 W1 N w0 ao n c m BS GS EB eo EL ec p en S52 S53 S54 S60 S61 L x50 x51 x52 x53 x54 x55 x56 x57 x58 x59 x60 x61 x62 x63 x6 W
structure Pr21 (W1 : World) (N : Nat) (w0 : World) (ao : Option Addr) (n c : Nat) (m BS : List By) (GS PB po PL pc p ci QB qo QL qc : Nat) (X : List By) (S52 S53 S54 S60 S61 : ByteArray) (L : Nat → Bool) (x80 x81 x82 x83 x84 x85 x86 x87 x88 x89 x90 x91 x92 x93 x94 x95 x96 x6 : Value) (W : World) : Prop where
  x : ApS N w0 ao n c m BS (L 16) (L 17) x96 x6 W
  p0 : L 0 = true → x80 = .slice ao n c
  p1 : L 1 = true → x81 = .int .i64 (ci : Int)
  p2 : L 2 = true → x82 = .string S52
  p3 : L 3 = true → x83 = .string S53
  p4 : L 4 = true → x84 = .string S54
  p5 : L 5 = true → x85 = .pointer (some ⟨GS, 0, none⟩)
  p6 : L 6 = true → x86 = .slice (some ⟨PB, po, none⟩) PL pc
  p7 : L 7 = true → x87 = .int .i64 (p : Int)
  p8 : L 8 = true → x88 = .pointer (some ⟨PB, po + p, none⟩)
  p9 : L 9 = true → x89 = .slice (some ⟨QB, qo, none⟩) QL qc
  p10 : L 10 = true → x90 = .int .i64 (ci : Int)
  p11 : L 11 = true → x91 = .pointer (some ⟨QB, qo + ci * 32, none⟩)
  p12 : L 12 = true → x92 = .agg (X.map B8).toArray
  p13 : L 13 = true → x93 = .string S60
  p14 : L 14 = true → x94 = .string S61
  p15 : L 15 = true → x95 = .string (strOf BS)
  c16_0 : L 16 = true → L 0 = true
section
variable {W1 : World} {N : Nat} {w0 : World} {ao : Option Addr} {n c : Nat} {m BS : List By} {GS PB po PL pc p ci QB qo QL qc : Nat} {X : List By} {S52 S53 S54 S60 S61 : ByteArray} {L : Nat → Bool} {x80 x81 x82 x83 x84 x85 x86 x87 x88 x89 x90 x91 x92 x93 x94 x95 x96 x6 : Value} {W W2 : World}
end
@[reducible] def IPr21 (W1 : World) (N : Nat) (w0 : World) (ao : Option Addr) (n c : Nat) (m BS : List By) (GS PB po PL pc p ci QB qo QL qc : Nat) (X : List By) (S52 S53 S54 S60 S61 : ByteArray) (y0 y1 y2 y3 y4 y5 y7 y8 y9 y10 y11 y12 y13 y14 y15 y16 y17 y18 y19 y20 y21 y22 y23 y24 y25 y26 y27 y28 y29 y30 y31 y32 y33 y34 y35 y36 y37 y38 y39 y40 y41 y42 y43 y44 y45 y46 y47 y48 y49 y50 y51 y52 y53 y54 y55 y56 y57 y58 y59 y60 y61 y62 y63 y64 y65 y66 y67 y68 y69 y70 y71 y72 y73 y74 y75 y76 y77 y78 y79 y97 y98 : Value) : (Nat → Bool) → Act → World → Prop := fun L a W => ∃ x80 x81 x82 x83 x84 x85 x86 x87 x88 x89 x90 x91 x92 x93 x94 x95 x96 x6, a = ⟨#[y0, y1, y2, y3, y4, y5, x6, y7, y8, y9, y10, y11, y12, y13, y14, y15, y16, y17, y18, y19, y20, y21, y22, y23, y24, y25, y26, y27, y28, y29, y30, y31, y32, y33, y34, y35, y36, y37, y38, y39, y40, y41, y42, y43, y44, y45, y46, y47, y48, y49, y50, y51, y52, y53, y54, y55, y56, y57, y58, y59, y60, y61, y62, y63, y64, y65, y66, y67, y68, y69, y70, y71, y72, y73, y74, y75, y76, y77, y78, y79, x80, x81, x82, x83, x84, x85, x86, x87, x88, x89, x90, x91, x92, x93, x94, x95, x96, y97, y98], []⟩ ∧ Pr21 W1 N w0 ao n c m BS GS PB po PL pc p ci QB qo QL qc X S52 S53 S54 S60 S61 L x80 x81 x82 x83 x84 x85 x86 x87 x88 x89 x90 x91 x92 x93 x94 x95 x96 x6 W
theorem Pr21.step {W1 : World} {N : Nat} {w0 : World} {ao : Option Addr} {n c : Nat} {m BS : List By} {GS PB po PL pc p ci QB qo QL qc : Nat} {X : List By} {S52 S53 S54 S60 S61 : ByteArray} {y0 y1 y2 y3 y4 y5 y7 y8 y9 y10 y11 y12 y13 y14 y15 y16 y17 y18 y19 y20 y21 y22 y23 y24 y25 y26 y27 y28 y29 y30 y31 y32 y33 y34 y35 y36 y37 y38 y39 y40 y41 y42 y43 y44 y45 y46 y47 y48 y49 y50 y51 y52 y53 y54 y55 y56 y57 y58 y59 y60 y61 y62 y63 y64 y65 y66 y67 y68 y69 y70 y71 y72 y73 y74 y75 y76 y77 y78 y79 y97 y98 : Value} {P : Program} {ops : Array Oper} {Q : Exit → Act → World → Prop} {i : Nat} {o : Oper} (hq : ∀ x80 x81 x82 x83 x84 x85 x86 x87 x88 x89 x90 x91 x92 x93 x94 x95 x96 x6 (L : Nat → Bool) (W : World), Pr21 W1 N w0 ao n c m BS GS PB po PL pc p ci QB qo QL qc X S52 S53 S54 S60 S61 L x80 x81 x82 x83 x84 x85 x86 x87 x88 x89 x90 x91 x92 x93 x94 x95 x96 x6 W → L i = false → (∀ j ∈ onesOf o, L j = true) → ∀ K : Act → World → Prop, Shut (∀ a' w', IPr21 W1 N w0 ao n c m BS GS PB po PL pc p ci QB qo QL qc X S52 S53 S54 S60 S61 y0 y1 y2 y3 y4 y5 y7 y8 y9 y10 y11 y12 y13 y14 y15 y16 y17 y18 y19 y20 y21 y22 y23 y24 y25 y26 y27 y28 y29 y30 y31 y32 y33 y34 y35 y36 y37 y38 y39 y40 y41 y42 y43 y44 y45 y46 y47 y48 y49 y50 y51 y52 y53 y54 y55 y56 y57 y58 y59 y60 y61 y62 y63 y64 y65 y66 y67 y68 y69 y70 y71 y72 y73 y74 y75 y76 y77 y78 y79 y97 y98 (upd L i) a' w' → K a' w') → if Region.wanted o (yielded ops (⟨#[y0, y1, y2, y3, y4, y5, x6, y7, y8, y9, y10, y11, y12, y13, y14, y15, y16, y17, y18, y19, y20, y21, y22, y23, y24, y25, y26, y27, y28, y29, y30, y31, y32, y33, y34, y35, y36, y37, y38, y39, y40, y41, y42, y43, y44, y45, y46, y47, y48, y49, y50, y51, y52, y53, y54, y55, y56, y57, y58, y59, y60, y61, y62, y63, y64, y65, y66, y67, y68, y69, y70, y71, y72, y73, y74, y75, y76, y77, y78, y79, x80, x81, x82, x83, x84, x85, x86, x87, x88, x89, x90, x91, x92, x93, x94, x95, x96, y97, y98], []⟩ : Act).tmps) = true then Oper.wp P o ⟨#[y0, y1, y2, y3, y4, y5, x6, y7, y8, y9, y10, y11, y12, y13, y14, y15, y16, y17, y18, y19, y20, y21, y22, y23, y24, y25, y26, y27, y28, y29, y30, y31, y32, y33, y34, y35, y36, y37, y38, y39, y40, y41, y42, y43, y44, y45, y46, y47, y48, y49, y50, y51, y52, y53, y54, y55, y56, y57, y58, y59, y60, y61, y62, y63, y64, y65, y66, y67, y68, y69, y70, y71, y72, y73, y74, y75, y76, y77, y78, y79, x80, x81, x82, x83, x84, x85, x86, x87, x88, x89, x90, x91, x92, x93, x94, x95, x96, y97, y98], []⟩ W K Q else K ((⟨#[y0, y1, y2, y3, y4, y5, x6, y7, y8, y9, y10, y11, y12, y13, y14, y15, y16, y17, y18, y19, y20, y21, y22, y23, y24, y25, y26, y27, y28, y29, y30, y31, y32, y33, y34, y35, y36, y37, y38, y39, y40, y41, y42, y43, y44, y45, y46, y47, y48, y49, y50, y51, y52, y53, y54, y55, y56, y57, y58, y59, y60, y61, y62, y63, y64, y65, y66, y67, y68, y69, y70, y71, y72, y73, y74, y75, y76, y77, y78, y79, x80, x81, x82, x83, x84, x85, x86, x87, x88, x89, x90, x91, x92, x93, x94, x95, x96, y97, y98], []⟩ : Act).put o.dst undef) W) : StepI P ops (IPr21 W1 N w0 ao n c m BS GS PB po PL pc p ci QB qo QL qc X S52 S53 S54 S60 S61 y0 y1 y2 y3 y4 y5 y7 y8 y9 y10 y11 y12 y13 y14 y15 y16 y17 y18 y19 y20 y21 y22 y23 y24 y25 y26 y27 y28 y29 y30 y31 y32 y33 y34 y35 y36 y37 y38 y39 y40 y41 y42 y43 y44 y45 y46 y47 y48 y49 y50 y51 y52 y53 y54 y55 y56 y57 y58 y59 y60 y61 y62 y63 y64 y65 y66 y67 y68 y69 y70 y71 y72 y73 y74 y75 y76 y77 y78 y79 y97 y98) Q i o := by
  rintro L a W ⟨x80, x81, x82, x83, x84, x85, x86, x87, x88, x89, x90, x91, x92, x93, x94, x95, x96, x6, rfl, h⟩
  exact hq _ _ _ _ _ _ _ _ _ _ _ _ _ _ _ _ _ _ _ _ h

theorem getD_mem' {α : Type} (l : List α) (d : α) (i : Nat) (h : i < l.length) : l.getD i d ∈ l := by
  rw [List.getD_eq_getElem?_getD, List.getElem?_eq_getElem h]; exact List.getElem_mem h
theorem load_agg_at {w : World} {g : Nat} {ty : Nat} {cs : List Value} (h : Row w g ty cs) : w.rangeAt g 0 cs := fun j u hu => by
  have := h.cell j u hu
  simpa using this
/-- The bytes in front of the pages. -/
def preT (c : Cfg) (b : List Bool) (i : Nat) : List By := (wChip ++ numsL c.nums ++ [10#8] ++ wBlown) ++ numsL (trues (b.take i) 0)
theorem trues_len (b : List Bool) (i : Nat) : (trues b i).length ≤ b.length := by
  induction b generalizing i with
  | nil => exact Nat.le_refl _
  | cons x b ih =>
    have := ih (i + 1)
    rw [trues, List.length_cons]
    split
    · rw [List.length_cons]; omega
    · omega
theorem preT_len (c : Cfg) (hm : c.may = 0) (b : List Bool) (hb : b.length ≤ 1000000) (i : Nat) : (preT c b i).length ≤ 30000000 := by
  have h1 := numsL_len c.nums (fun n hn => by have := (cfg_of_nums hm).2 n hn; omega)
  have h2 := numsL_len (trues (b.take i) 0) (fun n hn => by
    have := mem_trues _ _ _ hn
    rw [List.length_take] at this
    omega)
  have h3 := trues_len (b.take i) 0
  rw [List.length_take] at h3
  have h4 : c.nums.length = 7 := rfl
  unfold preT
  simp only [List.length_append, List.length_cons, List.length_nil, wChip, wBlown]
  omega
/-- What is printed behind p pages. -/
def pagT (c : Cfg) (t : St) (p : Nat) : List By := preT c t.blown t.blown.length ++ [10#8] ++ pagesL (t.pages.take p) t.erases 0
def celT (c : Cfg) (t : St) (p i : Nat) : List By := pagT c t p ++ headL p (t.erases.getD p 0) ++ cellsL ((t.pages.getD p []).take i) 0
theorem pagT_end (c : Cfg) (t : St) : pagT c t t.pages.length = printL c t := by
  unfold pagT preT printL
  rw [List.take_length, List.take_length]
  simp [List.append_assoc]
theorem pagT_next (c : Cfg) (t : St) (p : Nat) (hp : p < t.pages.length) : celT c t p (t.pages.getD p []).length = pagT c t (p + 1) := by
  unfold celT pagT
  rw [pages_step _ _ _ hp, List.take_length]
  simp [List.append_assoc]
theorem celT_zero (c : Cfg) (t : St) (p : Nat) : celT c t p 0 = pagT c t p ++ headL p (t.erases.getD p 0) := by
  unfold celT
  rw [List.take_zero, cellsL, List.append_nil]
theorem celT_next (c : Cfg) (t : St) (p i : Nat) (hi : i < (t.pages.getD p []).length) : celT c t p (i + 1) = celT c t p i ++ (if (t.pages.getD p []).getD i [] = List.replicate 32 255#8 then [] else cellL i ((t.pages.getD p []).getD i [])) := by
  unfold celT
  rw [cells_step _ _ hi]
  simp [List.append_assoc]
theorem pagesL_len (C : Nat) (hC : C ≤ 256) : ∀ (gs : List (List (List By))) (es : List Int) (k : Nat), k + gs.length ≤ 1000000 → (∀ e ∈ es, e < 9223372036854775808) → (∀ g ∈ gs, g.length = C ∧ ∀ x ∈ g, x.length = 32) → (pagesL gs es k).length ≤ 30000 * gs.length
  | [], _, _, _, _, _ => Nat.le_refl _
  | g :: gs, es, k, hk, he, hg => by
    rw [List.length_cons] at hk
    have h1 := pagesL_len C hC gs es.tail (k + 1) (by omega) (fun e hm => he e (List.mem_of_mem_tail hm)) (fun x hx => hg x (List.mem_cons_of_mem _ hx))
    obtain ⟨g1, g2⟩ := hg g (List.mem_cons_self ..)
    have h2 := cellsL_len g 0 (by omega) g2
    have h3 := headL_len k (es.headD 0) (by omega) (by
      cases es with
      | nil => show (0 : Int) < _; omega
      | cons e es => exact he e (List.mem_cons_self ..))
    rw [pagesL, List.length_append, List.length_append, List.length_cons]
    omega
end Go.Proofs.YtgpnbiaghokjkaaDoor
