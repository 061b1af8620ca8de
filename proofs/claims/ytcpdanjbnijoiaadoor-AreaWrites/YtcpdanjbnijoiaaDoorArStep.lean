
import Derived.Test.YtcpdanjbnijoiaaDoorArReads
/-! Area's statements: the step of the script. -/
namespace Go.Proofs.YtcpdanjbnijoiaaDoor
open Go.RowKit
set_option linter.unusedVariables false
set_option maxRecDepth 100000

theorem awrite_facts {s : RS} (hA : s.Ar) (hG : s.Good) (a : Int) (b : List By) : (s.awrite a b).1.Ar ∧ (s.awrite a b).1.Good ∧ (s.awrite a b).1.n ≤ s.n + 20000 := by
  unfold RS.awrite
  split
  · rename_i h0
    obtain ⟨hg, ha⟩ := areaE_zero h0
    split
    · exact ⟨hA, hG, by show s.n ≤ _; omega⟩
    · split
      · exact ⟨hA, hG, by show s.n ≤ _; omega⟩
      · split
        · exact ⟨hA, hG, by show s.n ≤ _; omega⟩
        · rename_i hn0 hbig hwn
          have F := awf ha b s hA hg (by omega) (by omega) (by simpa using hwn)
          have hn1 := F.n1
          have har := hA.area
          have hce := hA.cells
          have e1 := hA.asize
          have h3 : s.c.area * s.c.cells ≤ 64 * 256 := Int.mul_le_mul (by omega) (by omega) (by omega) (by omega)
          refine ⟨F.ar, ?_, by omega⟩
          unfold RS.wr1
          have g1 := (eraseGo_good (a := a) s.c.area.toNat 0 s hG).1
          split
          · unfold RS.wr2
            have g2 := (layGo_good (a := a) (b := b) ((b.length + 31) / 32 - 1) 1 _ g1).1
            split
            · exact (g2.program _ _ _).1
            · exact g2
          · exact g1
  · exact ⟨hA, hG, by show s.n ≤ _; omega⟩

/-- A step of the script. -/
def stepC (k a n : Int) (bo : Option Addr) (len cap : Nat) : List Value := [.int .i64 k, .int .i64 a, .int .i64 n, .slice bo len cap]

/-- Around the call of Write. -/
structure WS14 (W1 : World) (G : RF) (T : RS) (g X : Nat) (xs : List Value) (a : Int) (bo : Option Addr) (len cap : Nat) (l : Bool) (W : World) : Prop where
  za : l = false → W = W1.drew
  zb : l = true → (∃ S, CAt W G T S) ∧ KeptL G.blocks W1 W
  c1 : W.cell? ⟨g, 1, none⟩ = some (.int .i64 a)
  c3 : W.cell? ⟨g, 3, none⟩ = some (.slice bo len cap)
  rx : Row W X 5 xs
theorem WS14.next {W1 W W2 : World} {G : RF} {T : RS} {g X : Nat} {xs : List Value} {a : Int} {bo : Option Addr} {len cap : Nat} {l : Bool} (h : WS14 W1 G T g X xs a bo len cap l W) (hl : l = false) (hg : g ∉ G.blocks) (hX : X ∉ G.blocks) (z1 : ∃ S, CAt W2 G T S) (z2 : KeptL G.blocks W W2) : WS14 W1 G T g X xs a bo len cap true W2 := by
  have hW := h.za hl
  have hgl : g < W.heap.size := World.block_lt_of_cell? _ _ h.c1
  refine ⟨fun e => (by cases e), fun _ => ⟨z1, ?_⟩, (World.cell?_of_block (z2.block g hgl hg)).trans h.c1, (World.cell?_of_block (z2.block g hgl hg)).trans h.c3, (z2.block X h.rx.lt hX).trans h.rx⟩
  rw [hW] at z2
  exact ((KeptL.refl _ _).dr ⟨1, rfl⟩).trans z2
structure Ws6 (W1 : World) (G : RF) (T : RS) (gs X : Nat) (xs : List Value) (aI E : Int) (bo : Option Addr) (len cap : Nat) (L : Nat → Bool) (x30 x31 x32 x33 x34 x35 x36 x37 x38 x8 : Value) (W : World) : Prop where
  x : WS14 W1 G T gs X xs aI bo len cap (L 8) W
  p0 : L 0 = true → x30 = .pointer (some ⟨G.g, 0, none⟩)
  p1 : L 1 = true → x31 = .pointer (some ⟨gs, 1, none⟩)
  p2 : L 2 = true → x32 = .int .i64 aI
  p3 : L 3 = true → x33 = .slice (some ⟨X, 0, none⟩) (len + 4) (len + 4)
  p4 : L 4 = true → x34 = .pointer (some ⟨gs, 3, none⟩)
  p5 : L 5 = true → x35 = .slice bo len cap
  p6 : L 6 = true → x36 = .int .i64 (len : Int)
  p7 : L 7 = true → x37 = .slice (some ⟨X, 0, none⟩) len (len + 4)
  p8 : L 8 = true → x38 = .int .i64 E
  p9 : L 9 = true → x8 = .int .i64 E
section
variable {W1 : World} {G : RF} {T : RS} {gs X : Nat} {xs : List Value} {aI E : Int} {bo : Option Addr} {len cap : Nat} {L : Nat → Bool} {x30 x31 x32 x33 x34 x35 x36 x37 x38 x8 : Value} {W W2 : World}
theorem Ws6.s0 (h : Ws6 W1 G T gs X xs aI E bo len cap L x30 x31 x32 x33 x34 x35 x36 x37 x38 x8 W) : Ws6 W1 G T gs X xs aI E bo len cap (upd L 0) (.pointer (some ⟨G.g, 0, none⟩)) x31 x32 x33 x34 x35 x36 x37 x38 x8 W :=
  ⟨h.x, fun _ => rfl, h.p1, h.p2, h.p3, h.p4, h.p5, h.p6, h.p7, h.p8, h.p9⟩
theorem Ws6.s1 (h : Ws6 W1 G T gs X xs aI E bo len cap L x30 x31 x32 x33 x34 x35 x36 x37 x38 x8 W) : Ws6 W1 G T gs X xs aI E bo len cap (upd L 1) x30 (.pointer (some ⟨gs, 1, none⟩)) x32 x33 x34 x35 x36 x37 x38 x8 W :=
  ⟨h.x, h.p0, fun _ => rfl, h.p2, h.p3, h.p4, h.p5, h.p6, h.p7, h.p8, h.p9⟩
theorem Ws6.s2 (h : Ws6 W1 G T gs X xs aI E bo len cap L x30 x31 x32 x33 x34 x35 x36 x37 x38 x8 W) : Ws6 W1 G T gs X xs aI E bo len cap (upd L 2) x30 x31 (.int .i64 aI) x33 x34 x35 x36 x37 x38 x8 W :=
  ⟨h.x, h.p0, h.p1, fun _ => rfl, h.p3, h.p4, h.p5, h.p6, h.p7, h.p8, h.p9⟩
theorem Ws6.s3 (h : Ws6 W1 G T gs X xs aI E bo len cap L x30 x31 x32 x33 x34 x35 x36 x37 x38 x8 W) : Ws6 W1 G T gs X xs aI E bo len cap (upd L 3) x30 x31 x32 (.slice (some ⟨X, 0, none⟩) (len + 4) (len + 4)) x34 x35 x36 x37 x38 x8 W :=
  ⟨h.x, h.p0, h.p1, h.p2, fun _ => rfl, h.p4, h.p5, h.p6, h.p7, h.p8, h.p9⟩
theorem Ws6.s4 (h : Ws6 W1 G T gs X xs aI E bo len cap L x30 x31 x32 x33 x34 x35 x36 x37 x38 x8 W) : Ws6 W1 G T gs X xs aI E bo len cap (upd L 4) x30 x31 x32 x33 (.pointer (some ⟨gs, 3, none⟩)) x35 x36 x37 x38 x8 W :=
  ⟨h.x, h.p0, h.p1, h.p2, h.p3, fun _ => rfl, h.p5, h.p6, h.p7, h.p8, h.p9⟩
theorem Ws6.s5 (h : Ws6 W1 G T gs X xs aI E bo len cap L x30 x31 x32 x33 x34 x35 x36 x37 x38 x8 W) : Ws6 W1 G T gs X xs aI E bo len cap (upd L 5) x30 x31 x32 x33 x34 (.slice bo len cap) x36 x37 x38 x8 W :=
  ⟨h.x, h.p0, h.p1, h.p2, h.p3, h.p4, fun _ => rfl, h.p6, h.p7, h.p8, h.p9⟩
theorem Ws6.s6 (h : Ws6 W1 G T gs X xs aI E bo len cap L x30 x31 x32 x33 x34 x35 x36 x37 x38 x8 W) : Ws6 W1 G T gs X xs aI E bo len cap (upd L 6) x30 x31 x32 x33 x34 x35 (.int .i64 (len : Int)) x37 x38 x8 W :=
  ⟨h.x, h.p0, h.p1, h.p2, h.p3, h.p4, h.p5, fun _ => rfl, h.p7, h.p8, h.p9⟩
theorem Ws6.s7 (h : Ws6 W1 G T gs X xs aI E bo len cap L x30 x31 x32 x33 x34 x35 x36 x37 x38 x8 W) : Ws6 W1 G T gs X xs aI E bo len cap (upd L 7) x30 x31 x32 x33 x34 x35 x36 (.slice (some ⟨X, 0, none⟩) len (len + 4)) x38 x8 W :=
  ⟨h.x, h.p0, h.p1, h.p2, h.p3, h.p4, h.p5, h.p6, fun _ => rfl, h.p8, h.p9⟩
theorem Ws6.s8 (h : Ws6 W1 G T gs X xs aI E bo len cap L x30 x31 x32 x33 x34 x35 x36 x37 x38 x8 W) (hX : WS14 W1 G T gs X xs aI bo len cap ((upd L 8) 8) W2) : Ws6 W1 G T gs X xs aI E bo len cap (upd L 8) x30 x31 x32 x33 x34 x35 x36 x37 (.int .i64 E) x8 W2 :=
  ⟨hX, h.p0, h.p1, h.p2, h.p3, h.p4, h.p5, h.p6, h.p7, fun _ => rfl, h.p9⟩
theorem Ws6.s9 (h : Ws6 W1 G T gs X xs aI E bo len cap L x30 x31 x32 x33 x34 x35 x36 x37 x38 x8 W) : Ws6 W1 G T gs X xs aI E bo len cap (upd L 9) x30 x31 x32 x33 x34 x35 x36 x37 x38 (.int .i64 E) W :=
  ⟨h.x, h.p0, h.p1, h.p2, h.p3, h.p4, h.p5, h.p6, h.p7, h.p8, fun _ => rfl⟩
end
@[reducible] def IWs6 (W1 : World) (G : RF) (T : RS) (gs X : Nat) (xs : List Value) (aI E : Int) (bo : Option Addr) (len cap : Nat) (y0 y1 y2 y3 y4 y5 y6 y7 y9 y10 y11 y12 y13 y14 y15 y16 y17 y18 y19 y20 y21 y22 y23 y24 y25 y26 y27 y28 y29 y39 y40 y41 y42 y43 y44 y45 y46 y47 y48 y49 y50 y51 y52 y53 y54 y55 y56 y57 y58 y59 y60 y61 y62 y63 y64 y65 y66 y67 y68 y69 y70 y71 y72 y73 y74 y75 y76 y77 y78 y79 y80 y81 y82 y83 y84 y85 y86 y87 y88 y89 y90 y91 y92 y93 y94 y95 y96 y97 y98 y99 y100 y101 y102 y103 y104 y105 y106 y107 y108 : Value) : (Nat → Bool) → Act → World → Prop := fun L a W => ∃ x30 x31 x32 x33 x34 x35 x36 x37 x38 x8, a = ⟨#[y0, y1, y2, y3, y4, y5, y6, y7, x8, y9, y10, y11, y12, y13, y14, y15, y16, y17, y18, y19, y20, y21, y22, y23, y24, y25, y26, y27, y28, y29, x30, x31, x32, x33, x34, x35, x36, x37, x38, y39, y40, y41, y42, y43, y44, y45, y46, y47, y48, y49, y50, y51, y52, y53, y54, y55, y56, y57, y58, y59, y60, y61, y62, y63, y64, y65, y66, y67, y68, y69, y70, y71, y72, y73, y74, y75, y76, y77, y78, y79, y80, y81, y82, y83, y84, y85, y86, y87, y88, y89, y90, y91, y92, y93, y94, y95, y96, y97, y98, y99, y100, y101, y102, y103, y104, y105, y106, y107, y108], []⟩ ∧ Ws6 W1 G T gs X xs aI E bo len cap L x30 x31 x32 x33 x34 x35 x36 x37 x38 x8 W
theorem Ws6.step {W1 : World} {G : RF} {T : RS} {gs X : Nat} {xs : List Value} {aI E : Int} {bo : Option Addr} {len cap : Nat} {y0 y1 y2 y3 y4 y5 y6 y7 y9 y10 y11 y12 y13 y14 y15 y16 y17 y18 y19 y20 y21 y22 y23 y24 y25 y26 y27 y28 y29 y39 y40 y41 y42 y43 y44 y45 y46 y47 y48 y49 y50 y51 y52 y53 y54 y55 y56 y57 y58 y59 y60 y61 y62 y63 y64 y65 y66 y67 y68 y69 y70 y71 y72 y73 y74 y75 y76 y77 y78 y79 y80 y81 y82 y83 y84 y85 y86 y87 y88 y89 y90 y91 y92 y93 y94 y95 y96 y97 y98 y99 y100 y101 y102 y103 y104 y105 y106 y107 y108 : Value} {P : Program} {ops : Array Oper} {Q : Exit → Act → World → Prop} {i : Nat} {o : Oper} (hq : ∀ x30 x31 x32 x33 x34 x35 x36 x37 x38 x8 (L : Nat → Bool) (W : World), Ws6 W1 G T gs X xs aI E bo len cap L x30 x31 x32 x33 x34 x35 x36 x37 x38 x8 W → L i = false → (∀ j ∈ onesOf o, L j = true) → ∀ K : Act → World → Prop, Shut (∀ a' w', IWs6 W1 G T gs X xs aI E bo len cap y0 y1 y2 y3 y4 y5 y6 y7 y9 y10 y11 y12 y13 y14 y15 y16 y17 y18 y19 y20 y21 y22 y23 y24 y25 y26 y27 y28 y29 y39 y40 y41 y42 y43 y44 y45 y46 y47 y48 y49 y50 y51 y52 y53 y54 y55 y56 y57 y58 y59 y60 y61 y62 y63 y64 y65 y66 y67 y68 y69 y70 y71 y72 y73 y74 y75 y76 y77 y78 y79 y80 y81 y82 y83 y84 y85 y86 y87 y88 y89 y90 y91 y92 y93 y94 y95 y96 y97 y98 y99 y100 y101 y102 y103 y104 y105 y106 y107 y108 (upd L i) a' w' → K a' w') → if Region.wanted o (yielded ops (⟨#[y0, y1, y2, y3, y4, y5, y6, y7, x8, y9, y10, y11, y12, y13, y14, y15, y16, y17, y18, y19, y20, y21, y22, y23, y24, y25, y26, y27, y28, y29, x30, x31, x32, x33, x34, x35, x36, x37, x38, y39, y40, y41, y42, y43, y44, y45, y46, y47, y48, y49, y50, y51, y52, y53, y54, y55, y56, y57, y58, y59, y60, y61, y62, y63, y64, y65, y66, y67, y68, y69, y70, y71, y72, y73, y74, y75, y76, y77, y78, y79, y80, y81, y82, y83, y84, y85, y86, y87, y88, y89, y90, y91, y92, y93, y94, y95, y96, y97, y98, y99, y100, y101, y102, y103, y104, y105, y106, y107, y108], []⟩ : Act).tmps) = true then Oper.wp P o ⟨#[y0, y1, y2, y3, y4, y5, y6, y7, x8, y9, y10, y11, y12, y13, y14, y15, y16, y17, y18, y19, y20, y21, y22, y23, y24, y25, y26, y27, y28, y29, x30, x31, x32, x33, x34, x35, x36, x37, x38, y39, y40, y41, y42, y43, y44, y45, y46, y47, y48, y49, y50, y51, y52, y53, y54, y55, y56, y57, y58, y59, y60, y61, y62, y63, y64, y65, y66, y67, y68, y69, y70, y71, y72, y73, y74, y75, y76, y77, y78, y79, y80, y81, y82, y83, y84, y85, y86, y87, y88, y89, y90, y91, y92, y93, y94, y95, y96, y97, y98, y99, y100, y101, y102, y103, y104, y105, y106, y107, y108], []⟩ W K Q else K ((⟨#[y0, y1, y2, y3, y4, y5, y6, y7, x8, y9, y10, y11, y12, y13, y14, y15, y16, y17, y18, y19, y20, y21, y22, y23, y24, y25, y26, y27, y28, y29, x30, x31, x32, x33, x34, x35, x36, x37, x38, y39, y40, y41, y42, y43, y44, y45, y46, y47, y48, y49, y50, y51, y52, y53, y54, y55, y56, y57, y58, y59, y60, y61, y62, y63, y64, y65, y66, y67, y68, y69, y70, y71, y72, y73, y74, y75, y76, y77, y78, y79, y80, y81, y82, y83, y84, y85, y86, y87, y88, y89, y90, y91, y92, y93, y94, y95, y96, y97, y98, y99, y100, y101, y102, y103, y104, y105, y106, y107, y108], []⟩ : Act).put o.dst undef) W) : StepI P ops (IWs6 W1 G T gs X xs aI E bo len cap y0 y1 y2 y3 y4 y5 y6 y7 y9 y10 y11 y12 y13 y14 y15 y16 y17 y18 y19 y20 y21 y22 y23 y24 y25 y26 y27 y28 y29 y39 y40 y41 y42 y43 y44 y45 y46 y47 y48 y49 y50 y51 y52 y53 y54 y55 y56 y57 y58 y59 y60 y61 y62 y63 y64 y65 y66 y67 y68 y69 y70 y71 y72 y73 y74 y75 y76 y77 y78 y79 y80 y81 y82 y83 y84 y85 y86 y87 y88 y89 y90 y91 y92 y93 y94 y95 y96 y97 y98 y99 y100 y101 y102 y103 y104 y105 y106 y107 y108) Q i o := by
  rintro L a W ⟨x30, x31, x32, x33, x34, x35, x36, x37, x38, x8, rfl, h⟩
  exact hq _ _ _ _ _ _ _ _ _ _ _ _ h
theorem Ws6.ends {W1 : World} {G : RF} {T : RS} {gs X : Nat} {xs : List Value} {aI E : Int} {bo : Option Addr} {len cap : Nat} {y0 y1 y2 y3 y4 y5 y6 y7 y9 y10 y11 y12 y13 y14 y15 y16 y17 y18 y19 y20 y21 y22 y23 y24 y25 y26 y27 y28 y29 y39 y40 y41 y42 y43 y44 y45 y46 y47 y48 y49 y50 y51 y52 y53 y54 y55 y56 y57 y58 y59 y60 y61 y62 y63 y64 y65 y66 y67 y68 y69 y70 y71 y72 y73 y74 y75 y76 y77 y78 y79 y80 y81 y82 y83 y84 y85 y86 y87 y88 y89 y90 y91 y92 y93 y94 y95 y96 y97 y98 y99 y100 y101 y102 y103 y104 y105 y106 y107 y108 : Value} {mm_ : Nat} {Q : Exit → Act → World → Prop} (hq : ∀ x30 x31 x32 x33 x34 x35 x36 x37 x38 x8 (L : Nat → Bool) (W : World), (∀ j, j < mm_ → L j = true) → Ws6 W1 G T gs X xs aI E bo len cap L x30 x31 x32 x33 x34 x35 x36 x37 x38 x8 W → Q .normal ⟨#[y0, y1, y2, y3, y4, y5, y6, y7, x8, y9, y10, y11, y12, y13, y14, y15, y16, y17, y18, y19, y20, y21, y22, y23, y24, y25, y26, y27, y28, y29, x30, x31, x32, x33, x34, x35, x36, x37, x38, y39, y40, y41, y42, y43, y44, y45, y46, y47, y48, y49, y50, y51, y52, y53, y54, y55, y56, y57, y58, y59, y60, y61, y62, y63, y64, y65, y66, y67, y68, y69, y70, y71, y72, y73, y74, y75, y76, y77, y78, y79, y80, y81, y82, y83, y84, y85, y86, y87, y88, y89, y90, y91, y92, y93, y94, y95, y96, y97, y98, y99, y100, y101, y102, y103, y104, y105, y106, y107, y108], []⟩ W) : ∀ L a' w', (∀ j, j < mm_ → L j = true) → IWs6 W1 G T gs X xs aI E bo len cap y0 y1 y2 y3 y4 y5 y6 y7 y9 y10 y11 y12 y13 y14 y15 y16 y17 y18 y19 y20 y21 y22 y23 y24 y25 y26 y27 y28 y29 y39 y40 y41 y42 y43 y44 y45 y46 y47 y48 y49 y50 y51 y52 y53 y54 y55 y56 y57 y58 y59 y60 y61 y62 y63 y64 y65 y66 y67 y68 y69 y70 y71 y72 y73 y74 y75 y76 y77 y78 y79 y80 y81 y82 y83 y84 y85 y86 y87 y88 y89 y90 y91 y92 y93 y94 y95 y96 y97 y98 y99 y100 y101 y102 y103 y104 y105 y106 y107 y108 L a' w' → Q .normal a' w' := by
  rintro L a W hall ⟨x30, x31, x32, x33, x34, x35, x36, x37, x38, x8, rfl, h⟩
  exact hq _ _ _ _ _ _ _ _ _ _ _ _ hall h
end Go.Proofs.YtcpdanjbnijoiaaDoor
