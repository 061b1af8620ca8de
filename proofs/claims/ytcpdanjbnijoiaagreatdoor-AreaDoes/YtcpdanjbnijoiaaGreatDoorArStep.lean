
import Derived.Test.YtcpdanjbnijoiaaGreatDoorArReads
/-! Area's statements: the step of the script. -/
namespace Go.Proofs.YtcpdanjbnijoiaaGreatDoor
open Go.RowKit
set_option linter.unusedVariables false
set_option maxRecDepth 100000

theorem awrite_facts {s : RS} (hA : s.Ar) (hG : s.Good) (a : Int) (b : List By) : (s.awrite a b).1.Ar ∧ (s.awrite a b).1.Good ∧ (s.awrite a b).1.n ≤ s.n + 20000 := by
  unfold RS.awrite
  split
  · rename_i h0
    obtain ⟨hg, ha⟩ := areaE_zero h0
    split
    · exact ⟨hA, hG, by show s.n ≤ _; omega⟩
    · split
      · exact ⟨hA, hG, by show s.n ≤ _; omega⟩
      · split
        · exact ⟨hA, hG, by show s.n ≤ _; omega⟩
        · rename_i hn0 hbig hwn
          have F := awf ha b s hA hg (by omega) (by omega) (by simpa using hwn)
          have hn1 := F.n1
          have har := hA.area
          have hce := hA.cells
          have e1 := hA.asize
          have h3 : s.c.area * s.c.cells ≤ 64 * 256 := Int.mul_le_mul (by omega) (by omega) (by omega) (by omega)
          refine ⟨F.ar, ?_, by omega⟩
          unfold RS.wr1
          have g1 := (eraseGo_good (a := a) s.c.area.toNat 0 s hG).1
          split
          · unfold RS.wr2
            have g2 := (layGo_good (a := a) (b := b) ((b.length + 31) / 32 - 1) 1 _ g1).1
            split
            · exact (g2.program _ _ _).1
            · exact g2
          · exact g1
  · exact ⟨hA, hG, by show s.n ≤ _; omega⟩

def StepPost14 (G F : RF) (s : RS) (w : World) (e : Ending) (w' : World) : Prop := e = .returned (.bool true) ∧ ∃ F' s', PR w' G F' s' ∧ s'.Ar ∧ F'.g = F.g ∧ (∀ B ∈ F'.blocks, B ∈ F.blocks ∨ w.heap.size ≤ B) ∧ s'.n ≤ s.n + 20000 ∧ KeptL (G.blocks ++ F.blocks) w w'
/-- A step of the script. -/
def stepC (k a n : Int) (bo : Option Addr) (len cap : Nat) : List Value := [.int .i64 k, .int .i64 a, .int .i64 n, .slice bo len cap]

/-- Around the call of Write. -/
structure WS14 (W1 : World) (G : RF) (T : RS) (g X : Nat) (xs : List Value) (a : Int) (bo : Option Addr) (len cap : Nat) (l : Bool) (W : World) : Prop where
  za : l = false → W = W1.drew
  zb : l = true → (∃ S, CAt W G T S) ∧ KeptL G.blocks W1 W
  c1 : W.cell? ⟨g, 1, none⟩ = some (.int .i64 a)
  c3 : W.cell? ⟨g, 3, none⟩ = some (.slice bo len cap)
  rx : Row W X 5 xs
theorem WS14.next {W1 W W2 : World} {G : RF} {T : RS} {g X : Nat} {xs : List Value} {a : Int} {bo : Option Addr} {len cap : Nat} {l : Bool} (h : WS14 W1 G T g X xs a bo len cap l W) (hl : l = false) (hg : g ∉ G.blocks) (hX : X ∉ G.blocks) (z1 : ∃ S, CAt W2 G T S) (z2 : KeptL G.blocks W W2) : WS14 W1 G T g X xs a bo len cap true W2 := by
  have hW := h.za hl
  have hgl : g < W.heap.size := World.block_lt_of_cell? _ _ h.c1
  refine ⟨fun e => (by cases e), fun _ => ⟨z1, ?_⟩, (World.cell?_of_block (z2.block g hgl hg)).trans h.c1, (World.cell?_of_block (z2.block g hgl hg)).trans h.c3, (z2.block X h.rx.lt hX).trans h.rx⟩
  rw [hW] at z2
  exact ((KeptL.refl _ _).dr ⟨1, rfl⟩).trans z2
structure Ws6 (W1 : World) (G : RF) (T : RS) (gs X : Nat) (xs : List Value) (aI E : Int) (bo : Option Addr) (len cap : Nat) (L : Nat → Bool) (x30 x31 x32 x33 x34 x35 x36 x37 x38 x8 : Value) (W : World) : Prop where
  x : WS14 W1 G T gs X xs aI bo len cap (L 8) W
  p0 : L 0 = true → x30 = .pointer (some ⟨G.g, 0, none⟩)
  p1 : L 1 = true → x31 = .pointer (some ⟨gs, 1, none⟩)
  p2 : L 2 = true → x32 = .int .i64 aI
  p3 : L 3 = true → x33 = .slice (some ⟨X, 0, none⟩) (len + 4) (len + 4)
  p4 : L 4 = true → x34 = .pointer (some ⟨gs, 3, none⟩)
  p5 : L 5 = true → x35 = .slice bo len cap
  p6 : L 6 = true → x36 = .int .i64 (len : Int)
  p7 : L 7 = true → x37 = .slice (some ⟨X, 0, none⟩) len (len + 4)
  p8 : L 8 = true → x38 = .int .i64 E
  p9 : L 9 = true → x8 = .int .i64 E
section
variable {W1 : World} {G : RF} {T : RS} {gs X : Nat} {xs : List Value} {aI E : Int} {bo : Option Addr} {len cap : Nat} {L : Nat → Bool} {x30 x31 x32 x33 x34 x35 x36 x37 x38 x8 : Value} {W W2 : World}
theorem Ws6.s0 (h : Ws6 W1 G T gs X xs aI E bo len cap L x30 x31 x32 x33 x34 x35 x36 x37 x38 x8 W) : Ws6 W1 G T gs X xs aI E bo len cap (upd L 0) (.pointer (some ⟨G.g, 0, none⟩)) x31 x32 x33 x34 x35 x36 x37 x38 x8 W :=
  ⟨h.x, fun _ => rfl, h.p1, h.p2, h.p3, h.p4, h.p5, h.p6, h.p7, h.p8, h.p9⟩
theorem Ws6.s1 (h : Ws6 W1 G T gs X xs aI E bo len cap L x30 x31 x32 x33 x34 x35 x36 x37 x38 x8 W) : Ws6 W1 G T gs X xs aI E bo len cap (upd L 1) x30 (.pointer (some ⟨gs, 1, none⟩)) x32 x33 x34 x35 x36 x37 x38 x8 W :=
  ⟨h.x, h.p0, fun _ => rfl, h.p2, h.p3, h.p4, h.p5, h.p6, h.p7, h.p8, h.p9⟩
theorem Ws6.s2 (h : Ws6 W1 G T gs X xs aI E bo len cap L x30 x31 x32 x33 x34 x35 x36 x37 x38 x8 W) : Ws6 W1 G T gs X xs aI E bo len cap (upd L 2) x30 x31 (.int .i64 aI) x33 x34 x35 x36 x37 x38 x8 W :=
  ⟨h.x, h.p0, h.p1, fun _ => rfl, h.p3, h.p4, h.p5, h.p6, h.p7, h.p8, h.p9⟩
theorem Ws6.s3 (h : Ws6 W1 G T gs X xs aI E bo len cap L x30 x31 x32 x33 x34 x35 x36 x37 x38 x8 W) : Ws6 W1 G T gs X xs aI E bo len cap (upd L 3) x30 x31 x32 (.slice (some ⟨X, 0, none⟩) (len + 4) (len + 4)) x34 x35 x36 x37 x38 x8 W :=
  ⟨h.x, h.p0, h.p1, h.p2, fun _ => rfl, h.p4, h.p5, h.p6, h.p7, h.p8, h.p9⟩
theorem Ws6.s4 (h : Ws6 W1 G T gs X xs aI E bo len cap L x30 x31 x32 x33 x34 x35 x36 x37 x38 x8 W) : Ws6 W1 G T gs X xs aI E bo len cap (upd L 4) x30 x31 x32 x33 (.pointer (some ⟨gs, 3, none⟩)) x35 x36 x37 x38 x8 W :=
  ⟨h.x, h.p0, h.p1, h.p2, h.p3, fun _ => rfl, h.p5, h.p6, h.p7, h.p8, h.p9⟩
theorem Ws6.s5 (h : Ws6 W1 G T gs X xs aI E bo len cap L x30 x31 x32 x33 x34 x35 x36 x37 x38 x8 W) : Ws6 W1 G T gs X xs aI E bo len cap (upd L 5) x30 x31 x32 x33 x34 (.slice bo len cap) x36 x37 x38 x8 W :=
  ⟨h.x, h.p0, h.p1, h.p2, h.p3, h.p4, fun _ => rfl, h.p6, h.p7, h.p8, h.p9⟩
theorem Ws6.s6 (h : Ws6 W1 G T gs X xs aI E bo len cap L x30 x31 x32 x33 x34 x35 x36 x37 x38 x8 W) : Ws6 W1 G T gs X xs aI E bo len cap (upd L 6) x30 x31 x32 x33 x34 x35 (.int .i64 (len : Int)) x37 x38 x8 W :=
  ⟨h.x, h.p0, h.p1, h.p2, h.p3, h.p4, h.p5, fun _ => rfl, h.p7, h.p8, h.p9⟩
theorem Ws6.s7 (h : Ws6 W1 G T gs X xs aI E bo len cap L x30 x31 x32 x33 x34 x35 x36 x37 x38 x8 W) : Ws6 W1 G T gs X xs aI E bo len cap (upd L 7) x30 x31 x32 x33 x34 x35 x36 (.slice (some ⟨X, 0, none⟩) len (len + 4)) x38 x8 W :=
  ⟨h.x, h.p0, h.p1, h.p2, h.p3, h.p4, h.p5, h.p6, fun _ => rfl, h.p8, h.p9⟩
theorem Ws6.s8 (h : Ws6 W1 G T gs X xs aI E bo len cap L x30 x31 x32 x33 x34 x35 x36 x37 x38 x8 W) (hX : WS14 W1 G T gs X xs aI bo len cap ((upd L 8) 8) W2) : Ws6 W1 G T gs X xs aI E bo len cap (upd L 8) x30 x31 x32 x33 x34 x35 x36 x37 (.int .i64 E) x8 W2 :=
  ⟨hX, h.p0, h.p1, h.p2, h.p3, h.p4, h.p5, h.p6, h.p7, fun _ => rfl, h.p9⟩
theorem Ws6.s9 (h : Ws6 W1 G T gs X xs aI E bo len cap L x30 x31 x32 x33 x34 x35 x36 x37 x38 x8 W) : Ws6 W1 G T gs X xs aI E bo len cap (upd L 9) x30 x31 x32 x33 x34 x35 x36 x37 x38 (.int .i64 E) W :=
  ⟨h.x, h.p0, h.p1, h.p2, h.p3, h.p4, h.p5, h.p6, h.p7, h.p8, fun _ => rfl⟩
end
@[reducible] def IWs6 (W1 : World) (G : RF) (T : RS) (gs X : Nat) (xs : List Value) (aI E : Int) (bo : Option Addr) (len cap : Nat) (y0 y1 y2 y3 y4 y5 y6 y7 y9 y10 y11 y12 y13 y14 y15 y16 y17 y18 y19 y20 y21 y22 y23 y24 y25 y26 y27 y28 y29 y39 y40 y41 y42 y43 y44 y45 y46 y47 y48 y49 y50 y51 y52 y53 y54 y55 y56 y57 y58 y59 y60 y61 y62 y63 y64 y65 y66 y67 y68 y69 y70 y71 y72 y73 y74 y75 y76 y77 y78 y79 y80 y81 y82 y83 y84 y85 y86 y87 y88 y89 y90 y91 y92 y93 y94 y95 y96 y97 y98 y99 y100 y101 y102 y103 y104 y105 y106 y107 y108 : Value) : (Nat → Bool) → Act → World → Prop := fun L a W => ∃ x30 x31 x32 x33 x34 x35 x36 x37 x38 x8, a = ⟨#[y0, y1, y2, y3, y4, y5, y6, y7, x8, y9, y10, y11, y12, y13, y14, y15, y16, y17, y18, y19, y20, y21, y22, y23, y24, y25, y26, y27, y28, y29, x30, x31, x32, x33, x34, x35, x36, x37, x38, y39, y40, y41, y42, y43, y44, y45, y46, y47, y48, y49, y50, y51, y52, y53, y54, y55, y56, y57, y58, y59, y60, y61, y62, y63, y64, y65, y66, y67, y68, y69, y70, y71, y72, y73, y74, y75, y76, y77, y78, y79, y80, y81, y82, y83, y84, y85, y86, y87, y88, y89, y90, y91, y92, y93, y94, y95, y96, y97, y98, y99, y100, y101, y102, y103, y104, y105, y106, y107, y108], []⟩ ∧ Ws6 W1 G T gs X xs aI E bo len cap L x30 x31 x32 x33 x34 x35 x36 x37 x38 x8 W
theorem Ws6.step {W1 : World} {G : RF} {T : RS} {gs X : Nat} {xs : List Value} {aI E : Int} {bo : Option Addr} {len cap : Nat} {y0 y1 y2 y3 y4 y5 y6 y7 y9 y10 y11 y12 y13 y14 y15 y16 y17 y18 y19 y20 y21 y22 y23 y24 y25 y26 y27 y28 y29 y39 y40 y41 y42 y43 y44 y45 y46 y47 y48 y49 y50 y51 y52 y53 y54 y55 y56 y57 y58 y59 y60 y61 y62 y63 y64 y65 y66 y67 y68 y69 y70 y71 y72 y73 y74 y75 y76 y77 y78 y79 y80 y81 y82 y83 y84 y85 y86 y87 y88 y89 y90 y91 y92 y93 y94 y95 y96 y97 y98 y99 y100 y101 y102 y103 y104 y105 y106 y107 y108 : Value} {P : Program} {ops : Array Oper} {Q : Exit → Act → World → Prop} {i : Nat} {o : Oper} (hq : ∀ x30 x31 x32 x33 x34 x35 x36 x37 x38 x8 (L : Nat → Bool) (W : World), Ws6 W1 G T gs X xs aI E bo len cap L x30 x31 x32 x33 x34 x35 x36 x37 x38 x8 W → L i = false → (∀ j ∈ onesOf o, L j = true) → ∀ K : Act → World → Prop, Shut (∀ a' w', IWs6 W1 G T gs X xs aI E bo len cap y0 y1 y2 y3 y4 y5 y6 y7 y9 y10 y11 y12 y13 y14 y15 y16 y17 y18 y19 y20 y21 y22 y23 y24 y25 y26 y27 y28 y29 y39 y40 y41 y42 y43 y44 y45 y46 y47 y48 y49 y50 y51 y52 y53 y54 y55 y56 y57 y58 y59 y60 y61 y62 y63 y64 y65 y66 y67 y68 y69 y70 y71 y72 y73 y74 y75 y76 y77 y78 y79 y80 y81 y82 y83 y84 y85 y86 y87 y88 y89 y90 y91 y92 y93 y94 y95 y96 y97 y98 y99 y100 y101 y102 y103 y104 y105 y106 y107 y108 (upd L i) a' w' → K a' w') → if Region.wanted o (yielded ops (⟨#[y0, y1, y2, y3, y4, y5, y6, y7, x8, y9, y10, y11, y12, y13, y14, y15, y16, y17, y18, y19, y20, y21, y22, y23, y24, y25, y26, y27, y28, y29, x30, x31, x32, x33, x34, x35, x36, x37, x38, y39, y40, y41, y42, y43, y44, y45, y46, y47, y48, y49, y50, y51, y52, y53, y54, y55, y56, y57, y58, y59, y60, y61, y62, y63, y64, y65, y66, y67, y68, y69, y70, y71, y72, y73, y74, y75, y76, y77, y78, y79, y80, y81, y82, y83, y84, y85, y86, y87, y88, y89, y90, y91, y92, y93, y94, y95, y96, y97, y98, y99, y100, y101, y102, y103, y104, y105, y106, y107, y108], []⟩ : Act).tmps) = true then Oper.wp P o ⟨#[y0, y1, y2, y3, y4, y5, y6, y7, x8, y9, y10, y11, y12, y13, y14, y15, y16, y17, y18, y19, y20, y21, y22, y23, y24, y25, y26, y27, y28, y29, x30, x31, x32, x33, x34, x35, x36, x37, x38, y39, y40, y41, y42, y43, y44, y45, y46, y47, y48, y49, y50, y51, y52, y53, y54, y55, y56, y57, y58, y59, y60, y61, y62, y63, y64, y65, y66, y67, y68, y69, y70, y71, y72, y73, y74, y75, y76, y77, y78, y79, y80, y81, y82, y83, y84, y85, y86, y87, y88, y89, y90, y91, y92, y93, y94, y95, y96, y97, y98, y99, y100, y101, y102, y103, y104, y105, y106, y107, y108], []⟩ W K Q else K ((⟨#[y0, y1, y2, y3, y4, y5, y6, y7, x8, y9, y10, y11, y12, y13, y14, y15, y16, y17, y18, y19, y20, y21, y22, y23, y24, y25, y26, y27, y28, y29, x30, x31, x32, x33, x34, x35, x36, x37, x38, y39, y40, y41, y42, y43, y44, y45, y46, y47, y48, y49, y50, y51, y52, y53, y54, y55, y56, y57, y58, y59, y60, y61, y62, y63, y64, y65, y66, y67, y68, y69, y70, y71, y72, y73, y74, y75, y76, y77, y78, y79, y80, y81, y82, y83, y84, y85, y86, y87, y88, y89, y90, y91, y92, y93, y94, y95, y96, y97, y98, y99, y100, y101, y102, y103, y104, y105, y106, y107, y108], []⟩ : Act).put o.dst undef) W) : StepI P ops (IWs6 W1 G T gs X xs aI E bo len cap y0 y1 y2 y3 y4 y5 y6 y7 y9 y10 y11 y12 y13 y14 y15 y16 y17 y18 y19 y20 y21 y22 y23 y24 y25 y26 y27 y28 y29 y39 y40 y41 y42 y43 y44 y45 y46 y47 y48 y49 y50 y51 y52 y53 y54 y55 y56 y57 y58 y59 y60 y61 y62 y63 y64 y65 y66 y67 y68 y69 y70 y71 y72 y73 y74 y75 y76 y77 y78 y79 y80 y81 y82 y83 y84 y85 y86 y87 y88 y89 y90 y91 y92 y93 y94 y95 y96 y97 y98 y99 y100 y101 y102 y103 y104 y105 y106 y107 y108) Q i o := by
  rintro L a W ⟨x30, x31, x32, x33, x34, x35, x36, x37, x38, x8, rfl, h⟩
  exact hq _ _ _ _ _ _ _ _ _ _ _ _ h
theorem Ws6.ends {W1 : World} {G : RF} {T : RS} {gs X : Nat} {xs : List Value} {aI E : Int} {bo : Option Addr} {len cap : Nat} {y0 y1 y2 y3 y4 y5 y6 y7 y9 y10 y11 y12 y13 y14 y15 y16 y17 y18 y19 y20 y21 y22 y23 y24 y25 y26 y27 y28 y29 y39 y40 y41 y42 y43 y44 y45 y46 y47 y48 y49 y50 y51 y52 y53 y54 y55 y56 y57 y58 y59 y60 y61 y62 y63 y64 y65 y66 y67 y68 y69 y70 y71 y72 y73 y74 y75 y76 y77 y78 y79 y80 y81 y82 y83 y84 y85 y86 y87 y88 y89 y90 y91 y92 y93 y94 y95 y96 y97 y98 y99 y100 y101 y102 y103 y104 y105 y106 y107 y108 : Value} {mm_ : Nat} {Q : Exit → Act → World → Prop} (hq : ∀ x30 x31 x32 x33 x34 x35 x36 x37 x38 x8 (L : Nat → Bool) (W : World), (∀ j, j < mm_ → L j = true) → Ws6 W1 G T gs X xs aI E bo len cap L x30 x31 x32 x33 x34 x35 x36 x37 x38 x8 W → Q .normal ⟨#[y0, y1, y2, y3, y4, y5, y6, y7, x8, y9, y10, y11, y12, y13, y14, y15, y16, y17, y18, y19, y20, y21, y22, y23, y24, y25, y26, y27, y28, y29, x30, x31, x32, x33, x34, x35, x36, x37, x38, y39, y40, y41, y42, y43, y44, y45, y46, y47, y48, y49, y50, y51, y52, y53, y54, y55, y56, y57, y58, y59, y60, y61, y62, y63, y64, y65, y66, y67, y68, y69, y70, y71, y72, y73, y74, y75, y76, y77, y78, y79, y80, y81, y82, y83, y84, y85, y86, y87, y88, y89, y90, y91, y92, y93, y94, y95, y96, y97, y98, y99, y100, y101, y102, y103, y104, y105, y106, y107, y108], []⟩ W) : ∀ L a' w', (∀ j, j < mm_ → L j = true) → IWs6 W1 G T gs X xs aI E bo len cap y0 y1 y2 y3 y4 y5 y6 y7 y9 y10 y11 y12 y13 y14 y15 y16 y17 y18 y19 y20 y21 y22 y23 y24 y25 y26 y27 y28 y29 y39 y40 y41 y42 y43 y44 y45 y46 y47 y48 y49 y50 y51 y52 y53 y54 y55 y56 y57 y58 y59 y60 y61 y62 y63 y64 y65 y66 y67 y68 y69 y70 y71 y72 y73 y74 y75 y76 y77 y78 y79 y80 y81 y82 y83 y84 y85 y86 y87 y88 y89 y90 y91 y92 y93 y94 y95 y96 y97 y98 y99 y100 y101 y102 y103 y104 y105 y106 y107 y108 L a' w' → Q .normal a' w' := by
  rintro L a W hall ⟨x30, x31, x32, x33, x34, x35, x36, x37, x38, x8, rfl, h⟩
  exact hq _ _ _ _ _ _ _ _ _ _ _ _ hall h
set_option maxHeartbeats 4000000 in
theorem l14step_any (A : Are) (AW : AreWorn) (w : World) (hg : HG w) (G F : RF) (s : RS) (hp : PR w G F s) (hA : s.Ar) (hn : s.n < 4611686018427000000) (k a n : Int) (hnn : n < 9223372036854775808) (bo : Option Addr) (len cap : Nat) (b : List By) (hb0 : b.length = len) (hlen : len ≤ 140737488351232) (hcap : len ≤ cap) (hnil : bo = none → cap = 0) (hb : IsB w bo b)
    (hd : b = [] ∨ ∀ B off, bo = some ⟨B, off, none⟩ → B ∉ G.blocks ∧ B ∉ F.blocks) :
    Calls Tryz.prog 9 #[.pointer (some ⟨G.g, 0, none⟩), .pointer (some ⟨F.g, 0, none⟩), .agg (stepC k a n bo len cap).toArray] w (StepPost14 G F s w) := by
  have hgood := hp.good
  have HHG : Hid (HG w) := hg
  clear hg
  have HAR : Hid s.Ar := hA
  obtain ⟨W0, hW0⟩ : ∃ W0, W0 = w.alloc (.cells (stepC k a n bo len cap).toArray 42) := ⟨_, rfl⟩
  have bb0 : Below w.heap.size w W0 := by rw [hW0]; exact (Below.refl _ _).alloc (Nat.le_refl _) _
  have rs0 : Row W0 w.heap.size 42 (stepC k a n bo len cap) := by rw [hW0]; exact Row.at _ _ _ _ _ rfl rfl
  have HPL : Hid (∀ B, B ∈ G.blocks ∨ B ∈ F.blocks → B < w.heap.size) := hp.lt
  have hGg : G.g ∈ G.blocks := by simp [RF.blocks]
  have hFg : F.g ∈ F.blocks := by simp [RF.blocks]
  have HK : Hid (∀ W, KeptL (G.blocks ++ F.blocks) W0 W → KeptL (G.blocks ++ F.blocks) w W ∧ Row W w.heap.size 42 (stepC k a n bo len cap) ∧ IsB W bo b) := by
    intro W kl
    have hnot : ∀ B, w.heap.size ≤ B → B ∉ G.blocks ++ F.blocks := fun B hB hm => by
      have := HPL.out B (List.mem_append.1 hm)
      omega
    have k2 := ((KeptL.refl (G.blocks ++ F.blocks) w).below bb0 (Nat.le_refl _)).trans kl
    refine ⟨k2, (kl.block _ rs0.lt (hnot _ (Nat.le_refl _))).trans rs0, isb_keep hb fun B off hne e => ?_⟩
    have hd2 := hd.resolve_left hne
    refine k2.block B ?_ (fun hm => (List.mem_append.1 hm).elim (hd2 B off e).1 (hd2 B off e).2)
    rcases hb with h2 | ⟨B', off', e2, hc⟩
    · exact absurd h2 hne
    · rw [e] at e2; injection e2 with e2; injection e2 with e3 e4
      subst e3 e4
      cases b with
      | nil => exact absurd rfl hne
      | cons x r => exact World.block_lt_of_cell? _ _ (hc 0 x rfl)
  have HK0 : Hid (KeptL (G.blocks ++ F.blocks) W0 W0) := KeptL.refl _ _
  have HP0 : Hid (PR W0 G F s) := hp.below bb0 (Nat.le_refl _)
  have HQ : Hid (∀ W, Below W0.heap.size W0 W → PR W G F s ∧ KeptL (G.blocks ++ F.blocks) W0 W) := fun W hW => ⟨HP0.out.below hW (Nat.le_refl _), HK0.out.below hW (Nat.le_refl _)⟩
  have HSTAY : Hid (∀ W, PR W G F s → KeptL (G.blocks ++ F.blocks) W0 W → StepPost14 G F s w (.returned (.bool true)) W) := fun W hW kl => ⟨rfl, F, s, hW, hA, rfl, fun B hB => .inl hB, by omega, (HK.out W kl).1⟩
  have HGO : Hid (∀ W s', (∃ S, CAt W G s' S) → RAt W F s' → s'.Good → s'.Ar → s'.n ≤ s.n + 20000 → KeptL (G.blocks ++ F.blocks) W0 W → StepPost14 G F s w (.returned (.bool true)) W) := fun W s' h1 h2 h3 h4 h5 kl => ⟨rfl, F, s', ⟨h1, h2, hp.sep, h3, hp.mn⟩, h4, rfl, fun B hB => .inl hB, h5, (HK.out W kl).1⟩
  have HV : Hid ((stepC k a n bo len cap)[0]? = some (.int .i64 k) ∧ (stepC k a n bo len cap)[1]? = some (.int .i64 a) ∧ (stepC k a n bo len cap)[2]? = some (.int .i64 n) ∧ (stepC k a n bo len cap)[3]? = some (.slice bo len cap)) := ⟨rfl, rfl, rfl, rfl⟩
  have HSEP : Hid (∀ B ∈ G.blocks, B ∉ F.blocks) := hp.sep
  have HD : Hid (b = [] ∨ ∀ B off, bo = some ⟨B, off, none⟩ → B ∉ G.blocks ∧ B ∉ F.blocks) := hd
  have HB0 : Hid (b.length = len) := hb0
  have HNIL : Hid (bo = none → cap = 0) := hnil
  clear hp hb hd hb0 hnil
  generalize stepC k a n bo len cap = ST at *
  have c0 := rs0.cell 0 _ HV.out.1
  have c1 := rs0.cell 1 _ HV.out.2.1
  have c2 := rs0.cell 2 _ HV.out.2.2.1
  have c3 := rs0.cell 3 _ HV.out.2.2.2
  clear rs0
  by_cases h1 : k = 1
  · subst h1
    have RA := reads_any A W0 (HHG.out.below bb0 HHG.out.lt) G F s HP0.out hA a
    go_enter Tryz.func9, Tryz.ntmps9
    go_upto_region 1 with fail
    rw [← hW0]
    clear hW0
    go_wp2_with fail
    refine RA.mono ?_
    rintro e w1 ⟨rfl, hb1⟩
    dsimp only
    go_wp2
    go_ret
    have hq := HQ.out w1 hb1
    exact HSTAY.out _ hq.1 hq.2
  by_cases h3 : k = 3
  · subst h3
    have HC : Hid (∀ W, PR W G F s → Calls Tryz.prog 29 #[.pointer (some ⟨G.g, 0, none⟩), .int .i64 a] W fun e w' => e = .returned (.tuple #[.bool (if s.areaE a = 0 then s.aworn a else false), .int .i64 (s.areaE a)]) ∧ Below W.heap.size W w') := fun W hW => by
      obtain ⟨S, c⟩ := hW.c
      exact AW G s S a W c HAR.out
    have HR : Hid (∀ W, RAt W F s → Calls Tryz.prog 30 #[.pointer (some ⟨F.g, 0, none⟩), .int .i64 a] W fun e w' => e = .returned (.tuple #[.bool (if s.areaE a = 0 then s.aworn a else false), .int .i64 (s.areaE a)]) ∧ Below W.heap.size W w') := fun W hW => r14worn_any F s a W hW HAR.out
    generalize (if s.areaE a = 0 then s.aworn a else false) = V at *
    generalize s.areaE a = E at *
    go_enter Tryz.func9, Tryz.ntmps9
    go_upto_region 1 with fail
    rw [← hW0]
    clear hW0
    go_wp2_with fail
    refine (HC.out _ HP0.out).mono ?_
    rintro e w1 ⟨rfl, hb1⟩
    dsimp only
    have HP1 := HQ.out w1 hb1
    have c11 := (HK.out w1 HP1.2).2.1.cell 1 _ HV.out.2.1
    have HR1 : Hid (RAt w1 F s) := HP1.1.r
    have hb1' : Hid (Below W0.heap.size W0 w1) := hb1
    clear hb1 HP1
    go_wp2_with fail
    refine (HR.out _ HR1.out).mono ?_
    rintro e w2 ⟨rfl, hb2⟩
    dsimp only
    have hq := HQ.out w2 (hb1'.out.trans (hb2.mono hb1'.out.size))
    have HF : Hid (StepPost14 G F s w (.returned (.bool true)) w2) := HSTAY.out _ hq.1 hq.2
    clear hq hb2
    cases V <;> (go_wp2; go_ret; exact HF.out)
  by_cases h2 : k = 2
  · subst h2
    have LN := lent_any bo len cap b HB0.out (by omega) hcap W0 (HK.out _ HK0.out).2.2
    have HC : Hid (∀ W X, (∃ S, CAt W G s S) → IsB W (some ⟨X, 0, none⟩) b → X ∉ G.blocks → Calls Tryz.prog 16 #[.pointer (some ⟨G.g, 0, none⟩), .int .i64 a, .slice (some ⟨X, 0, none⟩) len (len + 4)] W (CPost G (s.awrite a b).1 (s.awrite a b).2 W)) := fun W X hW hi hX => by
      obtain ⟨S, c⟩ := hW
      exact A.write G s S a (some ⟨X, 0, none⟩) len (len + 4) b W HB0.out (by omega) (by omega) (fun h => by cases h) c HAR.out hgood hn hi (.inr fun B off e => by injection e with e; injection e with e; subst e; exact hX)
    have HR : Hid (∀ W, RAt W F s → IsB W bo b → Calls Tryz.prog 27 #[.pointer (some ⟨F.g, 0, none⟩), .int .i64 a, .slice bo len cap] W fun e w' => e = .returned (.int .i64 (s.awrite a b).2) ∧ RAt w' F (s.awrite a b).1 ∧ KeptL F.blocks W w') := fun W hW hi => r14write_any F s a bo len cap b HB0.out (by omega) W hW HAR.out hgood hn hi (HD.out.imp id fun h B off e => (h B off e).2)
    obtain ⟨f1, f2, f3⟩ := awrite_facts hA hgood a b
    have HGG : Hid ((s.awrite a b).1.Good ∧ (s.awrite a b).1.Ar ∧ (s.awrite a b).1.n ≤ s.n + 20000) := ⟨f2, f1, f3⟩
    have KP : Hid (∀ W g, Row W g 5 ((b ++ mk4).map B8) → IsB W bo b → Calls Tryz.prog 28 #[.slice (some ⟨g, 0, none⟩) (len + 4) (len + 4), .slice bo len cap] W fun e w' => e = .returned (.bool true) ∧ Dr W w') := fun W g h1 h2 => kept_any g bo len cap b HB0.out (by omega) W h1 h2
    have HIX : Hid (∀ (W : World) g, Row W g 5 ((b ++ mk4).map B8) → IsB W (some ⟨g, 0, none⟩) b) := fun W g h => .inr ⟨g, 0, rfl, fun j v hj => by
      rw [Nat.zero_add]
      refine h.cell j _ ?_
      rw [List.getElem?_map, List.getElem?_append_left (List.getElem?_eq_some_iff.1 hj).1, hj]; rfl⟩
    have HXL : Hid ((b ++ mk4).length = len + 4) := by show _ = _; rw [List.length_append, HB0.out]; rfl
    clear f1 f2 f3
    generalize (s.awrite a b).1 = s' at *
    generalize (s.awrite a b).2 = E at *
    have HZ0 : Hid (w.heap.size < W0.heap.size) := by show _ < _; rw [hW0]; simp
    go_enter Tryz.func9, Tryz.ntmps9
    go_upto_region 1 with fail
    rw [← hW0]
    clear hW0
    go_wp2_with fail
    refine LN.mono ?_
    clear LN
    rintro e w1 ⟨rfl, hr1, hb1⟩
    dsimp only
    have hq1 := HQ.out w1 hb1
    obtain ⟨_, hst1, hib1⟩ := HK.out w1 hq1.2
    have hX : ∀ B, B ∈ G.blocks ∨ B ∈ F.blocks → B < W0.heap.size := HP0.out.lt
    generalize hXX : W0.heap.size = X at *
    have HXG : Hid (X ∉ G.blocks ∧ X ∉ F.blocks ∧ w.heap.size ≤ X ∧ w.heap.size ≠ X) := ⟨fun h => by have := hX X (.inl h); omega, fun h => by have := hX X (.inr h); omega, by have := HZ0.out; omega, by have := HZ0.out; omega⟩
    have HSG : Hid (w.heap.size ∉ G.blocks ∧ w.heap.size ∉ F.blocks) := ⟨fun h => by have := HPL.out _ (.inl h); omega, fun h => by have := HPL.out _ (.inr h); omega⟩
    have WZ : Hid (WS14 w1 G s' w.heap.size X ((b ++ mk4).map B8) a bo len cap false w1.drew) := ⟨fun _ => rfl, fun h => (by cases h), hst1.cell 1 _ HV.out.2.1, hst1.cell 3 _ HV.out.2.2.2, hr1⟩
    have HC0 : Hid (∃ S, CAt w1.drew G s S) := by obtain ⟨S, c⟩ := hq1.1.c; exact ⟨S, c.dr ⟨1, rfl⟩⟩
    have HR1 : Hid (RAt w1 F s) := hq1.1.r
    have KK1 : Hid (KeptL (G.blocks ++ F.blocks) W0 w1) := hq1.2
    clear hq1 hst1 hib1 hr1 hb1 hX
    have ln1 : (len : Int) ≤ (len : Int) + 4 := by omega
    have ln0 : (0 : Int) ≤ (len : Int) := by omega
    go_wp2_with fail
    refine wp_region_inv (IWs6 w1 G s' w.heap.size X ((b ++ mk4).map B8) a E bo len cap _ _ _ _ _ _ _ _ _ _ _ _ _ _ _ _ _ _ _ _ _ _ _ _ _ _ _ _ _ _ _ _ _ _ _ _ _ _ _ _ _ _ _ _ _ _ _ _ _ _ _ _ _ _ _ _ _ _ _ _ _ _ _ _ _ _ _ _ _ _ _ _ _ _ _ _ _ _ _ _ _ _ _ _ _ _ _ _ _ _ _ _ _ _ _ _ _ _ _) (by kernel_rfl) (by kernel_rfl) ⟨_, _, _, _, _, _, _, _, _, _, rfl, ⟨WZ.out, fun k => (by cases k), fun k => (by cases k), fun k => (by cases k), fun k => (by cases k), fun k => (by cases k), fun k => (by cases k), fun k => (by cases k), fun k => (by cases k), fun k => (by cases k), fun k => (by cases k)⟩⟩ ?_ ?_
    · refine .cons ?_ (.cons ?_ (.cons ?_ (.cons ?_ (.cons ?_ (.cons ?_ (.cons ?_ (.cons ?_ (.cons ?_ (.cons ?_ .nil)))))))))
      all_goals (refine Ws6.step ?_; intro x30 x31 x32 x33 x34 x35 x36 x37 x38 x8 L W hI hL hd K hK)
      · rw [if_pos (by rfl)]
        go_simp
        exact hK.out _ _ ⟨_, _, _, _, _, _, _, _, _, _, rfl, hI.s0⟩
      · rw [if_pos (by rfl)]
        go_simp
        exact hK.out _ _ ⟨_, _, _, _, _, _, _, _, _, _, rfl, hI.s1⟩
      · have hx1 := hI.p1 (hd 1 (by decide))
        subst hx1
        rw [if_pos (by rfl)]
        have cc := hI.x.c1
        go_simp
        exact hK.out _ _ ⟨_, _, _, _, _, _, _, _, _, _, rfl, hI.s2⟩
      · rw [if_pos (by rfl)]
        go_simp
        exact hK.out _ _ ⟨_, _, _, _, _, _, _, _, _, _, rfl, hI.s3⟩
      · rw [if_pos (by rfl)]
        go_simp
        exact hK.out _ _ ⟨_, _, _, _, _, _, _, _, _, _, rfl, hI.s4⟩
      · have hx4 := hI.p4 (hd 4 (by decide))
        subst hx4
        rw [if_pos (by rfl)]
        have cc := hI.x.c3
        go_simp
        exact hK.out _ _ ⟨_, _, _, _, _, _, _, _, _, _, rfl, hI.s5⟩
      · have hx5 := hI.p5 (hd 5 (by decide))
        subst hx5
        rw [if_pos (by rfl)]
        go_simp
        exact hK.out _ _ ⟨_, _, _, _, _, _, _, _, _, _, rfl, hI.s6⟩
      · have hx3 := hI.p3 (hd 3 (by decide))
        subst hx3
        have hx6 := hI.p6 (hd 6 (by decide))
        subst hx6
        rw [if_pos (by rfl)]
        go_simp
        exact hK.out _ _ ⟨_, _, _, _, _, _, _, _, _, _, rfl, hI.s7⟩
      · have hx0 := hI.p0 (hd 0 (by decide))
        subst hx0
        have hx2 := hI.p2 (hd 2 (by decide))
        subst hx2
        have hx7 := hI.p7 (hd 7 (by decide))
        subst hx7
        rw [if_pos (by rfl)]
        go_simp
        refine (HC.out _ X (by rw [hI.x.za hL]; exact HC0.out) (HIX.out _ _ hI.x.rx) HXG.out.1).mono ?_
        rintro e W2 ⟨rfl, z1, z2⟩
        go_simp
        exact hK.out _ _ ⟨_, _, _, _, _, _, _, _, _, _, rfl, hI.s8 (hI.x.next hL HSG.out.1 HXG.out.1 z1 z2)⟩
      · have hx8 := hI.p8 (hd 8 (by decide))
        subst hx8
        rw [if_pos (by rfl)]
        go_simp
        exact hK.out _ _ ⟨_, _, _, _, _, _, _, _, _, _, rfl, hI.s9⟩
    · refine Ws6.ends ?_; intro x30 x31 x32 x33 x34 x35 x36 x37 x38 x8 L W hall hI
      have hx0 := hI.p0 (hall 0 (by decide))
      subst hx0
      have hx1 := hI.p1 (hall 1 (by decide))
      subst hx1
      have hx2 := hI.p2 (hall 2 (by decide))
      subst hx2
      have hx3 := hI.p3 (hall 3 (by decide))
      subst hx3
      have hx4 := hI.p4 (hall 4 (by decide))
      subst hx4
      have hx5 := hI.p5 (hall 5 (by decide))
      subst hx5
      have hx6 := hI.p6 (hall 6 (by decide))
      subst hx6
      have hx7 := hI.p7 (hall 7 (by decide))
      subst hx7
      have hx8 := hI.p8 (hall 8 (by decide))
      subst hx8
      have hx9 := hI.p9 (hall 9 (by decide))
      subst hx9
      have hXe := hI.x
      rw [hall 8 (by decide)] at hXe
      clear hI hall
      try dsimp only
      obtain ⟨hc2, kl2⟩ := hXe.zb rfl
      have HRX2 : Hid (Row W X 5 ((b ++ mk4).map B8)) := hXe.rx
      have KK2 : Hid (KeptL (G.blocks ++ F.blocks) W0 W) := KK1.out.trans (kl2.sub fun B hB => List.mem_append.2 (.inl hB))
      have HR2 : Hid (RAt W F s) := HR1.out.keep fun B hB => kl2.block B (HR1.out.blt B hB) (fun hm => HSEP.out B hm hB)
      have HC2 : Hid (∃ S, CAt W G s' S) := hc2
      obtain ⟨_, hst2, hib2⟩ := HK.out W KK2.out
      have HIB2 : Hid (IsB W bo b) := hib2
      have d1 := hst2.cell 1 _ HV.out.2.1
      have d3 := hst2.cell 3 _ HV.out.2.2.2
      clear hXe hc2 kl2 hst2 hib2 WZ HC0 HR1 KK1 HC
      go_wp2_with fail
      refine (HR.out _ HR2.out HIB2.out).mono ?_
      rintro e w3 ⟨rfl, hr3, kl3⟩
      dsimp only
      have KK3 : Hid (KeptL (G.blocks ++ F.blocks) W0 w3) := KK2.out.trans (kl3.sub fun B hB => List.mem_append.2 (.inr hB))
      have HR3 : Hid (RAt w3 F s') := hr3
      have HC3 : Hid (∃ S, CAt w3 G s' S) := by
        obtain ⟨S1, c1'⟩ := HC2.out
        exact ⟨S1, c1'.keep fun B hB => kl3.block B (c1'.blt B hB) (HSEP.out B hB)⟩
      have HRX3 : Hid (Row w3 X 5 ((b ++ mk4).map B8)) := (kl3.block X HRX2.out.lt HXG.out.2.1).trans HRX2.out
      obtain ⟨_, hst3, hib3⟩ := HK.out w3 KK3.out
      have HIB3 : Hid (IsB w3 bo b) := hib3
      have d4 := hst3.cell 3 _ HV.out.2.2.2
      clear hr3 kl3 hst3 hib3 KK2 HR2 HC2 HIB2 HRX2 d1 d3
      go_wp2_with fail
      refine (KP.out _ X HRX3.out HIB3.out).mono ?_
      rintro e w4 ⟨rfl, dr4⟩
      dsimp only
      have HW4 : Hid (∃ l : List By, l.length = len + 4 ∧ Row w4 X 5 (l.map B8) ∧ SameBut X w3 (w4) ∨ True) := ⟨[], .inr trivial⟩
      have HS4 : Hid (∃ l : List By, l.length = len + 4 ∧ Row w4 X 5 (l.map B8) ∧ (∃ S, CAt w4 G s' S) ∧ RAt w4 F s' ∧ KeptL (G.blocks ++ F.blocks) W0 w4) := by
        obtain ⟨S1, c1'⟩ := HC3.out
        exact ⟨b ++ mk4, HXL.out, HRX3.out.dr dr4, ⟨S1, c1'.dr dr4⟩, HR3.out.dr dr4, KK3.out.dr dr4⟩
      clear HW4 dr4 d4 HRX3 HIB3 HR3 HC3 KK3
      go_wp2
      go_loopw [11] (fun iv wr => ∃ i : Nat, i ≤ len + 4 ∧ iv = .int .i64 i ∧ Hid (∃ l : List By, l.length = len + 4 ∧ Row wr X 5 (l.map B8) ∧ (∃ S, CAt wr G s' S) ∧ RAt wr F s' ∧ KeptL (G.blocks ++ F.blocks) W0 wr)) (fun iv _ => len + 4 - (intOf iv).toNat)
      case atStart => exact ⟨0, by omega, rfl, HS4⟩
      case round =>
        clear HS4
        obtain ⟨i, hi, rfl, HH⟩ := hrel
        by_cases hlt : i < len + 4
        · have y0 : (0 : Int) ≤ (i : Int) := by omega
          have y1 : (i : Int) < ((len + 4 : Nat) : Int) := by omega
          obtain ⟨l, hl, rl, ⟨S1, hc⟩, hr, kl⟩ := HH.out
          have cc := rl.cell i (.int .u8 ((l.getD i 0).toNat : Int)) (by rw [List.getElem?_map, List.getElem?_eq_getElem (by omega), List.getD_eq_getElem?_getD, List.getElem?_eq_getElem (by omega)]; rfl)
          have ff := rl.frozen i
          have xr := bits8_xor (l.getD i 0) 60#8
          have HN : Hid (∀ z : By, ∃ l : List By, l.length = len + 4 ∧ Row (wr.setCell ⟨X, i, none⟩ (.int .u8 (z.toNat : Int))) X 5 (l.map B8) ∧ (∃ S, CAt (wr.setCell ⟨X, i, none⟩ (.int .u8 (z.toNat : Int))) G s' S) ∧ RAt (wr.setCell ⟨X, i, none⟩ (.int .u8 (z.toNat : Int))) F s' ∧ KeptL (G.blocks ++ F.blocks) W0 (wr.setCell ⟨X, i, none⟩ (.int .u8 (z.toNat : Int)))) := fun z => by
            have sb := SameBut.setCell X i (.int .u8 (z.toNat : Int)) wr
            refine ⟨l.set i z, by rw [List.length_set]; exact hl, ?_, ⟨S1, hc.keep fun B hB => sb.block B (fun e => HXG.out.1 (e ▸ hB))⟩, hr.keep fun B hB => sb.block B (fun e => HXG.out.2.1 (e ▸ hB)), kl.but sb (.inr (by rw [hXX]; exact Nat.le_refl _))⟩
            rw [List.map_set]; exact rl.set i (.int .u8 (z.toNat : Int))
          clear hl rl hc hr kl HH
          generalize l.getD i 0 = y at *
          generalize hNN : len + 4 = NN at *
          have xr2 : bits .xor .u8 (y.toNat : Int) 60 = ((y ^^^ 60#8).toNat : Int) := xr
          generalize y ^^^ 60#8 = z at *
          go_wp2
          exact ⟨⟨i + 1, by omega, by go_num, HN.out z⟩, by simp [intOf]; omega⟩
        · obtain rfl : i = len + 4 := by omega
          have eE : (E == E) = true := by simp
          go_wp2
          go_ret
          obtain ⟨l, _, _, hc, hr, kl⟩ := HH.out
          exact HGO.out wr s' hc hr HGG.out.1 HGG.out.2.1 HGG.out.2.2 kl
  have e1 : (k == 1) = false := by rw [beq_eq_false_iff_ne]; exact h1
  have e2 : (k == 2) = false := by rw [beq_eq_false_iff_ne]; exact h2
  have e3 : (k == 3) = false := by rw [beq_eq_false_iff_ne]; exact h3
  by_cases h4 : k = 4
  · subst h4
    have HCU : Hid (∀ W, PR W G F s → IsB W bo b → Calls Tryz.prog 31 #[.pointer (some ⟨G.g, 0, none⟩), .int .i64 n, .slice bo len cap] W fun e w' => e = .returned (.tuple #[]) ∧ (∃ S', CAt w' G { s with wait := max (-1) n, mask := b } S') ∧ SameBut G.g W w') := fun W hW hi => by
      obtain ⟨S, c⟩ := hW.c
      exact ccut_any G s S n bo len cap b HB0.out W c hi (HD.out.imp id fun h B off e => fun e5 => (h B off e).1 (e5 ▸ hGg)) hcap (by omega) hnn
    have HCR : Hid (∀ W, RAt W F s → IsB W bo b → Calls Tryz.prog 32 #[.pointer (some ⟨F.g, 0, none⟩), .int .i64 n, .slice bo len cap] W fun e w' => e = .returned (.tuple #[]) ∧ ∃ mo mc mb, (∀ B, mb = some B → W.heap.size ≤ B) ∧ (mo = none → mc = 0) ∧ RAt w' { F with mo := mo, mcap := mc, mb := mb } { s with wait := max (-1) n, mask := b } ∧ KeptL [F.g] W w') := fun W hW hi => cut2_any F s n bo len cap b HB0.out W hW hi (HD.out.imp id fun h B off e => fun e5 => (h B off e).2 (e5 ▸ hFg)) HNIL.out (by omega)
    have HGG : Hid (({ s with wait := max (-1) n, mask := b } : RS).Good ∧ ({ s with wait := max (-1) n, mask := b } : RS).n ≤ s.n + 20000 ∧ ({ s with wait := max (-1) n, mask := b } : RS).Ar) := ⟨⟨hgood.n0, by show max (-1) n < _; omega, hgood.ce, hgood.e0, by show b.length ≤ _; rw [HB0.out]; exact hlen, hgood.pos⟩, by show s.n ≤ _; omega, ⟨⟨hA.ok.er, hA.ok.pg, hA.ok.bl, hA.ok.cl, hA.ok.c1, hA.ok.c2, hA.ok.by8⟩, hA.may, hA.pl⟩⟩
    generalize ({ s with wait := max (-1) n, mask := b } : RS) = s' at *
    go_enter Tryz.func9, Tryz.ntmps9
    go_upto_region 1 with fail
    rw [← hW0]
    clear hW0
    go_wp2_with fail
    refine (HCU.out _ HP0.out (HK.out _ HK0.out).2.2).mono ?_
    rintro e w1 ⟨rfl, hc1, sb1⟩
    dsimp only
    have kk1 : KeptL (G.blocks ++ F.blocks) W0 w1 := HK0.out.but sb1 (.inl (List.mem_append.2 (.inl hGg)))
    have HR1 : Hid (RAt w1 F s) := HP0.out.r.keep (fun B hB => sb1.block B (fun e => HSEP.out G.g hGg (e ▸ hB)))
    have HC1 : Hid (∃ S, CAt w1 G s' S) := hc1
    have KK1 : Hid (KeptL (G.blocks ++ F.blocks) W0 w1) := kk1
    obtain ⟨_, hrs1, hib1⟩ := HK.out w1 kk1
    have HIB1 : Hid (IsB w1 bo b) := hib1
    have d2 := hrs1.cell 2 _ HV.out.2.2.1
    have d3 := hrs1.cell 3 _ HV.out.2.2.2
    clear kk1 sb1 hc1 hrs1 hib1
    go_wp2_with fail
    refine (HCR.out _ HR1.out HIB1.out).mono ?_
    rintro e w2 ⟨rfl, mo, mc, mb, hmb, hmn, hr2, kl2⟩
    dsimp only
    have HFIN : Hid (StepPost14 G F s w (.returned (.bool true)) w2) := by
      refine ⟨rfl, { F with mo := mo, mcap := mc, mb := mb }, s', ⟨?_, hr2, ?_, HGG.out.1, hmn⟩, HGG.out.2.2, rfl, ?_, HGG.out.2.1, (HK.out w2 (KK1.out.trans (kl2.sub ?_))).1⟩
      · obtain ⟨S1, c1'⟩ := HC1.out
        exact ⟨S1, c1'.keep fun B hB => kl2.block B (c1'.blt B hB) (fun hm => by
          have : B = F.g := by simpa using hm
          exact HSEP.out B hB (this ▸ hFg))⟩
      · intro B hB hm
        rcases blocks_mask hm with h | h
        · exact HSEP.out B hB h
        · have := hmb B h
          obtain ⟨S1, c1'⟩ := HC1.out
          have := c1'.blt B hB
          omega
      · intro B hB
        rcases blocks_mask hB with h | h
        · exact .inl h
        · have := hmb B h
          have := (HK.out w1 KK1.out).1.size
          exact .inr (by omega)
      · intro B hB
        have : B = F.g := by simpa using hB
        exact List.mem_append.2 (.inr (this ▸ hFg))
    clear hmb hmn hr2 kl2
    go_wp2
    go_ret
    exact HFIN.out
  · have e4 : (k == 4) = false := by rw [beq_eq_false_iff_ne]; exact h4
    have HC : Hid (∀ W, PR W G F s → Calls Tryz.prog 33 #[.pointer (some ⟨G.g, 0, none⟩)] W fun e w' => e = .returned (.tuple #[]) ∧ (∃ S, CAt w' G { s with gone := false } S) ∧ SameBut G.g W w') := fun W hW => by
      obtain ⟨S, c⟩ := hW.c
      exact (crestore_any G s S W c).mono fun e w' h => ⟨h.1, ⟨S, h.2.1⟩, h.2.2⟩
    have HR : Hid (∀ W, RAt W F s → Calls Tryz.prog 34 #[.pointer (some ⟨F.g, 0, none⟩)] W fun e w' => e = .returned (.tuple #[]) ∧ RAt w' F { s with gone := false } ∧ SameBut F.g W w') := fun W hW => restore_any F s W hW
    have HGG : Hid (({ s with gone := false } : RS).Good ∧ ({ s with gone := false } : RS).n ≤ s.n + 20000 ∧ ({ s with gone := false } : RS).Ar) := ⟨⟨hgood.n0, hgood.wt, hgood.ce, hgood.e0, hgood.ml, hgood.pos⟩, by show s.n ≤ _; omega, ⟨⟨hA.ok.er, hA.ok.pg, hA.ok.bl, hA.ok.cl, hA.ok.c1, hA.ok.c2, hA.ok.by8⟩, hA.may, hA.pl⟩⟩
    generalize ({ s with gone := false } : RS) = s' at *
    go_enter Tryz.func9, Tryz.ntmps9
    go_upto_region 1 with fail
    rw [← hW0]
    clear hW0
    go_wp2_with (first
      | (refine (HC.out _ HP0.out).mono ?_; rintro e w1 ⟨rfl, hc1, sb1⟩; have kk1 : KeptL (G.blocks ++ F.blocks) W0 w1 := HK0.out.but sb1 (.inl (List.mem_append.2 (.inl hGg))); have HR1 : Hid (RAt w1 F s) := HP0.out.r.keep (fun B hB => sb1.block B (fun e => HSEP.out G.g hGg (e ▸ hB))); have HC1 : Hid (∃ S, CAt w1 G s' S) := hc1; have KK1 : Hid (KeptL (G.blocks ++ F.blocks) W0 w1) := kk1; clear kk1 sb1 hc1)
      | (refine (HR.out _ HR1.out).mono ?_; rintro e w2 ⟨rfl, hr2, sb2⟩))
    go_ret
    refine HGO.out w2 s' ?_ hr2 HGG.out.1 HGG.out.2.2 HGG.out.2.1 (KK1.out.but sb2 (.inl (List.mem_append.2 (.inr hFg))))
    obtain ⟨S1, c1'⟩ := HC1.out
    exact ⟨S1, c1'.keep fun B hB => sb2.block B (fun e => HSEP.out B hB (e ▸ hFg))⟩
end Go.Proofs.YtcpdanjbnijoiaaGreatDoor
