
import Derived.Test.YthegfkcegmeklaaH16Bks
/-! ChainDoes, of any chain in code. (Printed by tools/gendoes16.py.) -/
namespace Go.Proofs.Ythegfkcegmeklaa
open Go.RowKit
set_option linter.unusedVariables false

/-- While a book is held against its events. -/
structure EV1 (Lg : (Nat → Prop) → World → Addr → List EvV → Prop) (F : Nat → Prop) (w : World) (lp : Addr) (xs : List EvV) (R : List (Nat × Obj)) (l : Bool) (x91 : Value) (W : World) : Prop where
  fb : FB Lg F w lp xs R W
  ev : l = true → ∃ ao c R1, x91 = .slice ao xs.length c ∧ OutE w.heap.size xs ao c R1 ∧ FB Lg F w lp xs (R1 ++ R) W
section
variable {Lg : (Nat → Prop) → World → Addr → List EvV → Prop} {F : Nat → Prop} {w : World} {lp : Addr} {xs : List EvV} {R : List (Nat × Obj)} {l : Bool} {x91 : Value} {W W' : World}
theorem EV1.zero (h : FB Lg F w lp xs R W) (x91 : Value) : EV1 Lg F w lp xs R false x91 W := ⟨h, fun h => (by cases h)⟩
theorem FB.register (C : Chn Lg) (h : FB Lg F w lp xs R W) : Calls Try.prog 11 #[.pointer (some lp)] W fun e w' => e = .returned (.agg ((reg xs).map B8).toArray) ∧ FB Lg F w lp xs R w' := by
  obtain ⟨S, hl, _, hN⟩ := h.out
  exact (C.register hl).mono fun e w' ⟨S', e1, k1, k2, k3⟩ => ⟨e1, hN S' w' xs k1 k2 k3⟩
theorem EV1.reg (C : Chn Lg) (h : EV1 Lg F w lp xs R l x91 W) : Calls Try.prog 11 #[.pointer (some lp)] W fun e w' => e = .returned (.agg ((reg xs).map B8).toArray) ∧ EV1 Lg F w lp xs R l x91 w' := by
  cases l with
  | false => exact (h.fb.register C).mono fun e w' ⟨e1, hf⟩ => ⟨e1, EV1.zero hf _⟩
  | true =>
    obtain ⟨ao, c, R1, e1, ho, hf⟩ := h.ev rfl
    exact (hf.register C).mono fun e w' ⟨e2, hf2⟩ => ⟨e2, hf2.weaken fun t ht => List.mem_append.2 (.inr ht), fun _ => ⟨ao, c, R1, e1, ho, hf2⟩⟩
theorem EV1.below (C : Chn Lg) (h : EV1 Lg F w lp xs R l x91 W) (hb : Below W.heap.size W W') : EV1 Lg F w lp xs R l x91 W' :=
  ⟨h.fb.below C hb, fun hl => by
    obtain ⟨ao, c, R1, e1, ho, hf⟩ := h.ev hl
    exact ⟨ao, c, R1, e1, ho, hf.below C hb⟩⟩
theorem EV1.evs (C : Chn Lg) (h : EV1 Lg F w lp xs R l x91 W) : Calls Try.prog 14 #[.pointer (some lp)] W fun e w' => ∃ ao c, e = .returned (.slice ao xs.length c) ∧ EV1 Lg F w lp xs R true (.slice ao xs.length c) w' :=
  (FB.events C h.fb).mono fun e w' ⟨ao, c, R1, e1, ho, hf, _⟩ => ⟨ao, c, e1, hf.weaken fun t ht => List.mem_append.2 (.inr ht), fun _ => ⟨ao, c, R1, rfl, ho, hf⟩⟩
theorem EV1.v (h : EV1 Lg F w lp xs R l x91 W) (hl : l = true) : ∃ ao c, x91 = .slice ao xs.length c := by
  obtain ⟨ao, c, R1, e1, _⟩ := h.ev hl
  exact ⟨ao, c, e1⟩
theorem EV1.same (C : Chn Lg) (h : EV1 Lg F w lp xs R l x91 W) (hl : l = true) (hxo : ∀ x ∈ xs, EvOk x) (hn : xs.length ≤ 1024) (bo : Option Addr) (d B : Nat) (hbo : 0 < xs.length → bo = some ⟨B, 0, none⟩) (hin : EvIn W B 0 xs) : Calls Try.prog 13 #[x91, .slice bo xs.length d] W fun e w' => e = .returned (.bool true) ∧ EV1 Lg F w lp xs R l x91 w' := by
  obtain ⟨ao, c, R1, e1, ho, hf⟩ := h.ev hl
  obtain ⟨B6, g6, v6⟩ := ho.ev hxo
  rw [e1]
  refine (rsame_any W ao xs.length c B6 0 xs rfl (by omega) g6 (v6 W fun t ht => hf.blk (List.mem_append.2 (.inl ht))) bo xs.length d B 0 xs rfl hbo hin true (decide_eq_true rfl).symm).mono fun e w' ⟨h1, h2⟩ => ⟨h1, ?_⟩
  rw [← e1]
  exact h.below C (Below_dr (Below.refl _ _) h2)
end

/-- A book as a log and rows beside it. -/
theorem Bk.fb {Lg : (Nat → Prop) → World → Addr → List EvV → Prop} {F : Nat → Prop} {w : World} {g : Nat} {xs : List EvV} (h : Bk Lg F w g xs) {lb : Nat} {o : Obj} (hlb : w.heap[lb]? = some o) (hF : ¬ F lb) :
    ∃ lp ao c B ob, FB Lg F w lp xs [(lb, o), (g, .cells #[.pointer (some lp), .slice ao xs.length c] 29 (0, 0)), (B, ob)] w ∧ F g ∧ F B ∧ (0 < xs.length → ao = some ⟨B, 0, none⟩ ∧ B ≠ g) ∧ (ao = none → c = 0) ∧ ∀ W, W.heap[B]? = some ob → EvIn W B 0 xs := by
  obtain ⟨a, S, ao, c, B, ob, h1, h2, h3, h4, h5, h6, h7, h8, h9, h10, h11, h12⟩ := h
  refine ⟨a, ao, c, B, ob, ⟨S, h1, fun j hj => .inl (h2 j hj), ⟨rfl, rfl, rfl, Nat.le_refl _, fun _ _ _ => rfl⟩, fun t ht => ?_⟩, h5, h8, h10, h11, fun W hW => h12.blk (hW.trans h7.symm)⟩
  rcases List.mem_cons.1 ht with rfl | ht
  · exact ⟨hlb, fun hs => hF (h2 _ hs)⟩
  · rcases List.mem_cons.1 ht with rfl | ht
    · exact ⟨h4, h6⟩
    · rw [List.mem_singleton] at ht
      subst ht
      exact ⟨h7, h9⟩

structure D16 (W1 : World) (PW : World → Prop) (lb m c kk g O : Nat) (OC : List Value) (L : Nat → Bool) (x53 x54 x55 x56 x57 x58 x59 : Value) (W : World) : Prop where
  x : PW W
  p0 : L 0 = true → x53 = .slice (some ⟨lb, 0, none⟩) m c
  p1 : L 1 = true → x54 = .int .i64 (kk : Int)
  p2 : L 2 = true → x55 = .pointer (some ⟨lb, kk, none⟩)
  p3 : L 3 = true → x56 = .pointer (some ⟨g, 0, none⟩)
  p4 : L 4 = true → x57 = .agg OC.toArray
  p5 : L 5 = true → x58 = .bool true
  p6 : L 6 = true → x59 = .bool false
section
variable {W1 : World} {PW : World → Prop} {lb m c kk g O : Nat} {OC : List Value} {L : Nat → Bool} {x53 x54 x55 x56 x57 x58 x59 : Value} {W W2 : World}
theorem D16.s0 (h : D16 W1 PW lb m c kk g O OC L x53 x54 x55 x56 x57 x58 x59 W) : D16 W1 PW lb m c kk g O OC (upd L 0) (.slice (some ⟨lb, 0, none⟩) m c) x54 x55 x56 x57 x58 x59 W :=
  ⟨h.x, fun _ => rfl, h.p1, h.p2, h.p3, h.p4, h.p5, h.p6⟩
theorem D16.s1 (h : D16 W1 PW lb m c kk g O OC L x53 x54 x55 x56 x57 x58 x59 W) : D16 W1 PW lb m c kk g O OC (upd L 1) x53 (.int .i64 (kk : Int)) x55 x56 x57 x58 x59 W :=
  ⟨h.x, h.p0, fun _ => rfl, h.p2, h.p3, h.p4, h.p5, h.p6⟩
theorem D16.s2 (h : D16 W1 PW lb m c kk g O OC L x53 x54 x55 x56 x57 x58 x59 W) : D16 W1 PW lb m c kk g O OC (upd L 2) x53 x54 (.pointer (some ⟨lb, kk, none⟩)) x56 x57 x58 x59 W :=
  ⟨h.x, h.p0, h.p1, fun _ => rfl, h.p3, h.p4, h.p5, h.p6⟩
theorem D16.s3 (h : D16 W1 PW lb m c kk g O OC L x53 x54 x55 x56 x57 x58 x59 W) : D16 W1 PW lb m c kk g O OC (upd L 3) x53 x54 x55 (.pointer (some ⟨g, 0, none⟩)) x57 x58 x59 W :=
  ⟨h.x, h.p0, h.p1, h.p2, fun _ => rfl, h.p4, h.p5, h.p6⟩
theorem D16.s4 (h : D16 W1 PW lb m c kk g O OC L x53 x54 x55 x56 x57 x58 x59 W) : D16 W1 PW lb m c kk g O OC (upd L 4) x53 x54 x55 x56 (.agg OC.toArray) x58 x59 W :=
  ⟨h.x, h.p0, h.p1, h.p2, h.p3, fun _ => rfl, h.p5, h.p6⟩
theorem D16.s5 (h : D16 W1 PW lb m c kk g O OC L x53 x54 x55 x56 x57 x58 x59 W) (hX : PW W2) : D16 W1 PW lb m c kk g O OC (upd L 5) x53 x54 x55 x56 x57 (.bool true) x59 W2 :=
  ⟨hX, h.p0, h.p1, h.p2, h.p3, h.p4, fun _ => rfl, h.p6⟩
theorem D16.s6 (h : D16 W1 PW lb m c kk g O OC L x53 x54 x55 x56 x57 x58 x59 W) : D16 W1 PW lb m c kk g O OC (upd L 6) x53 x54 x55 x56 x57 x58 (.bool false) W :=
  ⟨h.x, h.p0, h.p1, h.p2, h.p3, h.p4, h.p5, fun _ => rfl⟩
end
@[reducible] def ID16 (W1 : World) (PW : World → Prop) (lb m c kk g O : Nat) (OC : List Value) (y0 y1 y2 y3 y4 y5 y6 y7 y8 y9 y10 y11 y12 y13 y14 y15 y16 y17 y18 y19 y20 y21 y22 y23 y24 y25 y26 y27 y28 y29 y30 y31 y32 y33 y34 y35 y36 y37 y38 y39 y40 y41 y42 y43 y44 y45 y46 y47 y48 y49 y50 y51 y52 y60 y61 y62 y63 y64 y65 y66 y67 y68 y69 y70 y71 y72 y73 y74 y75 y76 y77 y78 y79 y80 y81 y82 y83 y84 y85 y86 y87 y88 y89 y90 y91 y92 y93 y94 y95 y96 y97 y98 y99 y100 y101 y102 : Value) : (Nat → Bool) → Act → World → Prop := fun L a W => ∃ x53 x54 x55 x56 x57 x58 x59, a = ⟨#[y0, y1, y2, y3, y4, y5, y6, y7, y8, y9, y10, y11, y12, y13, y14, y15, y16, y17, y18, y19, y20, y21, y22, y23, y24, y25, y26, y27, y28, y29, y30, y31, y32, y33, y34, y35, y36, y37, y38, y39, y40, y41, y42, y43, y44, y45, y46, y47, y48, y49, y50, y51, y52, x53, x54, x55, x56, x57, x58, x59, y60, y61, y62, y63, y64, y65, y66, y67, y68, y69, y70, y71, y72, y73, y74, y75, y76, y77, y78, y79, y80, y81, y82, y83, y84, y85, y86, y87, y88, y89, y90, y91, y92, y93, y94, y95, y96, y97, y98, y99, y100, y101, y102], []⟩ ∧ D16 W1 PW lb m c kk g O OC L x53 x54 x55 x56 x57 x58 x59 W
theorem D16.step {W1 : World} {PW : World → Prop} {lb m c kk g O : Nat} {OC : List Value} {y0 y1 y2 y3 y4 y5 y6 y7 y8 y9 y10 y11 y12 y13 y14 y15 y16 y17 y18 y19 y20 y21 y22 y23 y24 y25 y26 y27 y28 y29 y30 y31 y32 y33 y34 y35 y36 y37 y38 y39 y40 y41 y42 y43 y44 y45 y46 y47 y48 y49 y50 y51 y52 y60 y61 y62 y63 y64 y65 y66 y67 y68 y69 y70 y71 y72 y73 y74 y75 y76 y77 y78 y79 y80 y81 y82 y83 y84 y85 y86 y87 y88 y89 y90 y91 y92 y93 y94 y95 y96 y97 y98 y99 y100 y101 y102 : Value} {P : Program} {ops : Array Oper} {Q : Exit → Act → World → Prop} {i : Nat} {o : Oper} (hq : ∀ x53 x54 x55 x56 x57 x58 x59 (L : Nat → Bool) (W : World), D16 W1 PW lb m c kk g O OC L x53 x54 x55 x56 x57 x58 x59 W → L i = false → (∀ j ∈ onesOf o, L j = true) → ∀ K : Act → World → Prop, Shut (∀ a' w', ID16 W1 PW lb m c kk g O OC y0 y1 y2 y3 y4 y5 y6 y7 y8 y9 y10 y11 y12 y13 y14 y15 y16 y17 y18 y19 y20 y21 y22 y23 y24 y25 y26 y27 y28 y29 y30 y31 y32 y33 y34 y35 y36 y37 y38 y39 y40 y41 y42 y43 y44 y45 y46 y47 y48 y49 y50 y51 y52 y60 y61 y62 y63 y64 y65 y66 y67 y68 y69 y70 y71 y72 y73 y74 y75 y76 y77 y78 y79 y80 y81 y82 y83 y84 y85 y86 y87 y88 y89 y90 y91 y92 y93 y94 y95 y96 y97 y98 y99 y100 y101 y102 (upd L i) a' w' → K a' w') → if Region.wanted o (yielded ops (⟨#[y0, y1, y2, y3, y4, y5, y6, y7, y8, y9, y10, y11, y12, y13, y14, y15, y16, y17, y18, y19, y20, y21, y22, y23, y24, y25, y26, y27, y28, y29, y30, y31, y32, y33, y34, y35, y36, y37, y38, y39, y40, y41, y42, y43, y44, y45, y46, y47, y48, y49, y50, y51, y52, x53, x54, x55, x56, x57, x58, x59, y60, y61, y62, y63, y64, y65, y66, y67, y68, y69, y70, y71, y72, y73, y74, y75, y76, y77, y78, y79, y80, y81, y82, y83, y84, y85, y86, y87, y88, y89, y90, y91, y92, y93, y94, y95, y96, y97, y98, y99, y100, y101, y102], []⟩ : Act).tmps) = true then Oper.wp P o ⟨#[y0, y1, y2, y3, y4, y5, y6, y7, y8, y9, y10, y11, y12, y13, y14, y15, y16, y17, y18, y19, y20, y21, y22, y23, y24, y25, y26, y27, y28, y29, y30, y31, y32, y33, y34, y35, y36, y37, y38, y39, y40, y41, y42, y43, y44, y45, y46, y47, y48, y49, y50, y51, y52, x53, x54, x55, x56, x57, x58, x59, y60, y61, y62, y63, y64, y65, y66, y67, y68, y69, y70, y71, y72, y73, y74, y75, y76, y77, y78, y79, y80, y81, y82, y83, y84, y85, y86, y87, y88, y89, y90, y91, y92, y93, y94, y95, y96, y97, y98, y99, y100, y101, y102], []⟩ W K Q else K ((⟨#[y0, y1, y2, y3, y4, y5, y6, y7, y8, y9, y10, y11, y12, y13, y14, y15, y16, y17, y18, y19, y20, y21, y22, y23, y24, y25, y26, y27, y28, y29, y30, y31, y32, y33, y34, y35, y36, y37, y38, y39, y40, y41, y42, y43, y44, y45, y46, y47, y48, y49, y50, y51, y52, x53, x54, x55, x56, x57, x58, x59, y60, y61, y62, y63, y64, y65, y66, y67, y68, y69, y70, y71, y72, y73, y74, y75, y76, y77, y78, y79, y80, y81, y82, y83, y84, y85, y86, y87, y88, y89, y90, y91, y92, y93, y94, y95, y96, y97, y98, y99, y100, y101, y102], []⟩ : Act).put o.dst undef) W) : StepI P ops (ID16 W1 PW lb m c kk g O OC y0 y1 y2 y3 y4 y5 y6 y7 y8 y9 y10 y11 y12 y13 y14 y15 y16 y17 y18 y19 y20 y21 y22 y23 y24 y25 y26 y27 y28 y29 y30 y31 y32 y33 y34 y35 y36 y37 y38 y39 y40 y41 y42 y43 y44 y45 y46 y47 y48 y49 y50 y51 y52 y60 y61 y62 y63 y64 y65 y66 y67 y68 y69 y70 y71 y72 y73 y74 y75 y76 y77 y78 y79 y80 y81 y82 y83 y84 y85 y86 y87 y88 y89 y90 y91 y92 y93 y94 y95 y96 y97 y98 y99 y100 y101 y102) Q i o := by
  rintro L a W ⟨x53, x54, x55, x56, x57, x58, x59, rfl, h⟩
  exact hq _ _ _ _ _ _ _ _ _ h
theorem D16.ends {W1 : World} {PW : World → Prop} {lb m c kk g O : Nat} {OC : List Value} {y0 y1 y2 y3 y4 y5 y6 y7 y8 y9 y10 y11 y12 y13 y14 y15 y16 y17 y18 y19 y20 y21 y22 y23 y24 y25 y26 y27 y28 y29 y30 y31 y32 y33 y34 y35 y36 y37 y38 y39 y40 y41 y42 y43 y44 y45 y46 y47 y48 y49 y50 y51 y52 y60 y61 y62 y63 y64 y65 y66 y67 y68 y69 y70 y71 y72 y73 y74 y75 y76 y77 y78 y79 y80 y81 y82 y83 y84 y85 y86 y87 y88 y89 y90 y91 y92 y93 y94 y95 y96 y97 y98 y99 y100 y101 y102 : Value} {mm_ : Nat} {Q : Exit → Act → World → Prop} (hq : ∀ x53 x54 x55 x56 x57 x58 x59 (L : Nat → Bool) (W : World), (∀ j, j < mm_ → L j = true) → D16 W1 PW lb m c kk g O OC L x53 x54 x55 x56 x57 x58 x59 W → Q .normal ⟨#[y0, y1, y2, y3, y4, y5, y6, y7, y8, y9, y10, y11, y12, y13, y14, y15, y16, y17, y18, y19, y20, y21, y22, y23, y24, y25, y26, y27, y28, y29, y30, y31, y32, y33, y34, y35, y36, y37, y38, y39, y40, y41, y42, y43, y44, y45, y46, y47, y48, y49, y50, y51, y52, x53, x54, x55, x56, x57, x58, x59, y60, y61, y62, y63, y64, y65, y66, y67, y68, y69, y70, y71, y72, y73, y74, y75, y76, y77, y78, y79, y80, y81, y82, y83, y84, y85, y86, y87, y88, y89, y90, y91, y92, y93, y94, y95, y96, y97, y98, y99, y100, y101, y102], []⟩ W) : ∀ L a' w', (∀ j, j < mm_ → L j = true) → ID16 W1 PW lb m c kk g O OC y0 y1 y2 y3 y4 y5 y6 y7 y8 y9 y10 y11 y12 y13 y14 y15 y16 y17 y18 y19 y20 y21 y22 y23 y24 y25 y26 y27 y28 y29 y30 y31 y32 y33 y34 y35 y36 y37 y38 y39 y40 y41 y42 y43 y44 y45 y46 y47 y48 y49 y50 y51 y52 y60 y61 y62 y63 y64 y65 y66 y67 y68 y69 y70 y71 y72 y73 y74 y75 y76 y77 y78 y79 y80 y81 y82 y83 y84 y85 y86 y87 y88 y89 y90 y91 y92 y93 y94 y95 y96 y97 y98 y99 y100 y101 y102 L a' w' → Q .normal a' w' := by
  rintro L a W hall ⟨x53, x54, x55, x56, x57, x58, x59, rfl, h⟩
  exact hq _ _ _ _ _ _ _ _ _ hall h
structure D21 (W1 : World) (Lg : (Nat → Prop) → World → Addr → List EvV → Prop) (F : Nat → Prop) (lp : Addr) (xs : List EvV) (R : List (Nat × Obj)) (lb m c kk g : Nat) (ao : Option Addr) (d : Nat) (RC : List Value) (L : Nat → Bool) (x66 x67 x68 x69 x70 x71 x72 x73 x74 x75 x76 x77 x78 x79 x80 x81 x82 x83 x84 x85 x86 x87 x88 x89 x90 x91 x92 x93 x94 x95 x96 x97 x98 x99 x100 x101 : Value) (W : World) : Prop where
  x : EV1 Lg F W1 lp xs R (L 25) x91 W
  p0 : L 0 = true → x66 = .slice (some ⟨lb, 0, none⟩) m c
  p1 : L 1 = true → x67 = .int .i64 (kk : Int)
  p2 : L 2 = true → x68 = .pointer (some ⟨lb, kk, none⟩)
  p3 : L 3 = true → x69 = .pointer (some ⟨g, 0, none⟩)
  p4 : L 4 = true → x70 = .pointer (some ⟨g, 0, none⟩)
  p5 : L 5 = true → x71 = .pointer (some ⟨g, 0, none⟩)
  p6 : L 6 = true → x72 = .pointer (some lp)
  p7 : L 7 = true → x73 = .agg RC.toArray
  p8 : L 8 = true → x74 = .slice (some ⟨lb, 0, none⟩) m c
  p9 : L 9 = true → x75 = .int .i64 (kk : Int)
  p10 : L 10 = true → x76 = .pointer (some ⟨lb, kk, none⟩)
  p11 : L 11 = true → x77 = .pointer (some ⟨g, 0, none⟩)
  p12 : L 12 = true → x78 = .pointer (some ⟨g, 0, none⟩)
  p13 : L 13 = true → x79 = .pointer (some ⟨g, 1, none⟩)
  p14 : L 14 = true → x80 = .slice ao xs.length d
  p15 : L 15 = true → x81 = .agg RC.toArray
  p16 : L 16 = true → x82 = .bool false
  p17 : L 17 = true → x83 = .bool false
  p18 : L 18 = true → x84 = .slice (some ⟨lb, 0, none⟩) m c
  p19 : L 19 = true → x85 = .int .i64 (kk : Int)
  p20 : L 20 = true → x86 = .pointer (some ⟨lb, kk, none⟩)
  p21 : L 21 = true → x87 = .pointer (some ⟨g, 0, none⟩)
  p22 : L 22 = true → x88 = .pointer (some ⟨g, 0, none⟩)
  p23 : L 23 = true → x89 = .pointer (some ⟨g, 0, none⟩)
  p24 : L 24 = true → x90 = .pointer (some lp)
  p26 : L 26 = true → x92 = .slice (some ⟨lb, 0, none⟩) m c
  p27 : L 27 = true → x93 = .int .i64 (kk : Int)
  p28 : L 28 = true → x94 = .pointer (some ⟨lb, kk, none⟩)
  p29 : L 29 = true → x95 = .pointer (some ⟨g, 0, none⟩)
  p30 : L 30 = true → x96 = .pointer (some ⟨g, 0, none⟩)
  p31 : L 31 = true → x97 = .pointer (some ⟨g, 1, none⟩)
  p32 : L 32 = true → x98 = .slice ao xs.length d
  p33 : L 33 = true → x99 = .bool true
  p34 : L 34 = true → x100 = .bool false
  p35 : L 35 = true → x101 = .bool false
section
variable {W1 : World} {Lg : (Nat → Prop) → World → Addr → List EvV → Prop} {F : Nat → Prop} {lp : Addr} {xs : List EvV} {R : List (Nat × Obj)} {lb m c kk g : Nat} {ao : Option Addr} {d : Nat} {RC : List Value} {L : Nat → Bool} {x66 x67 x68 x69 x70 x71 x72 x73 x74 x75 x76 x77 x78 x79 x80 x81 x82 x83 x84 x85 x86 x87 x88 x89 x90 x91 x92 x93 x94 x95 x96 x97 x98 x99 x100 x101 : Value} {W W2 : World}
theorem D21.s0 (h : D21 W1 Lg F lp xs R lb m c kk g ao d RC L x66 x67 x68 x69 x70 x71 x72 x73 x74 x75 x76 x77 x78 x79 x80 x81 x82 x83 x84 x85 x86 x87 x88 x89 x90 x91 x92 x93 x94 x95 x96 x97 x98 x99 x100 x101 W) : D21 W1 Lg F lp xs R lb m c kk g ao d RC (upd L 0) (.slice (some ⟨lb, 0, none⟩) m c) x67 x68 x69 x70 x71 x72 x73 x74 x75 x76 x77 x78 x79 x80 x81 x82 x83 x84 x85 x86 x87 x88 x89 x90 x91 x92 x93 x94 x95 x96 x97 x98 x99 x100 x101 W :=
  ⟨h.x, fun _ => rfl, h.p1, h.p2, h.p3, h.p4, h.p5, h.p6, h.p7, h.p8, h.p9, h.p10, h.p11, h.p12, h.p13, h.p14, h.p15, h.p16, h.p17, h.p18, h.p19, h.p20, h.p21, h.p22, h.p23, h.p24, h.p26, h.p27, h.p28, h.p29, h.p30, h.p31, h.p32, h.p33, h.p34, h.p35⟩
theorem D21.s1 (h : D21 W1 Lg F lp xs R lb m c kk g ao d RC L x66 x67 x68 x69 x70 x71 x72 x73 x74 x75 x76 x77 x78 x79 x80 x81 x82 x83 x84 x85 x86 x87 x88 x89 x90 x91 x92 x93 x94 x95 x96 x97 x98 x99 x100 x101 W) : D21 W1 Lg F lp xs R lb m c kk g ao d RC (upd L 1) x66 (.int .i64 (kk : Int)) x68 x69 x70 x71 x72 x73 x74 x75 x76 x77 x78 x79 x80 x81 x82 x83 x84 x85 x86 x87 x88 x89 x90 x91 x92 x93 x94 x95 x96 x97 x98 x99 x100 x101 W :=
  ⟨h.x, h.p0, fun _ => rfl, h.p2, h.p3, h.p4, h.p5, h.p6, h.p7, h.p8, h.p9, h.p10, h.p11, h.p12, h.p13, h.p14, h.p15, h.p16, h.p17, h.p18, h.p19, h.p20, h.p21, h.p22, h.p23, h.p24, h.p26, h.p27, h.p28, h.p29, h.p30, h.p31, h.p32, h.p33, h.p34, h.p35⟩
theorem D21.s2 (h : D21 W1 Lg F lp xs R lb m c kk g ao d RC L x66 x67 x68 x69 x70 x71 x72 x73 x74 x75 x76 x77 x78 x79 x80 x81 x82 x83 x84 x85 x86 x87 x88 x89 x90 x91 x92 x93 x94 x95 x96 x97 x98 x99 x100 x101 W) : D21 W1 Lg F lp xs R lb m c kk g ao d RC (upd L 2) x66 x67 (.pointer (some ⟨lb, kk, none⟩)) x69 x70 x71 x72 x73 x74 x75 x76 x77 x78 x79 x80 x81 x82 x83 x84 x85 x86 x87 x88 x89 x90 x91 x92 x93 x94 x95 x96 x97 x98 x99 x100 x101 W :=
  ⟨h.x, h.p0, h.p1, fun _ => rfl, h.p3, h.p4, h.p5, h.p6, h.p7, h.p8, h.p9, h.p10, h.p11, h.p12, h.p13, h.p14, h.p15, h.p16, h.p17, h.p18, h.p19, h.p20, h.p21, h.p22, h.p23, h.p24, h.p26, h.p27, h.p28, h.p29, h.p30, h.p31, h.p32, h.p33, h.p34, h.p35⟩
theorem D21.s3 (h : D21 W1 Lg F lp xs R lb m c kk g ao d RC L x66 x67 x68 x69 x70 x71 x72 x73 x74 x75 x76 x77 x78 x79 x80 x81 x82 x83 x84 x85 x86 x87 x88 x89 x90 x91 x92 x93 x94 x95 x96 x97 x98 x99 x100 x101 W) : D21 W1 Lg F lp xs R lb m c kk g ao d RC (upd L 3) x66 x67 x68 (.pointer (some ⟨g, 0, none⟩)) x70 x71 x72 x73 x74 x75 x76 x77 x78 x79 x80 x81 x82 x83 x84 x85 x86 x87 x88 x89 x90 x91 x92 x93 x94 x95 x96 x97 x98 x99 x100 x101 W :=
  ⟨h.x, h.p0, h.p1, h.p2, fun _ => rfl, h.p4, h.p5, h.p6, h.p7, h.p8, h.p9, h.p10, h.p11, h.p12, h.p13, h.p14, h.p15, h.p16, h.p17, h.p18, h.p19, h.p20, h.p21, h.p22, h.p23, h.p24, h.p26, h.p27, h.p28, h.p29, h.p30, h.p31, h.p32, h.p33, h.p34, h.p35⟩
theorem D21.s4 (h : D21 W1 Lg F lp xs R lb m c kk g ao d RC L x66 x67 x68 x69 x70 x71 x72 x73 x74 x75 x76 x77 x78 x79 x80 x81 x82 x83 x84 x85 x86 x87 x88 x89 x90 x91 x92 x93 x94 x95 x96 x97 x98 x99 x100 x101 W) : D21 W1 Lg F lp xs R lb m c kk g ao d RC (upd L 4) x66 x67 x68 x69 (.pointer (some ⟨g, 0, none⟩)) x71 x72 x73 x74 x75 x76 x77 x78 x79 x80 x81 x82 x83 x84 x85 x86 x87 x88 x89 x90 x91 x92 x93 x94 x95 x96 x97 x98 x99 x100 x101 W :=
  ⟨h.x, h.p0, h.p1, h.p2, h.p3, fun _ => rfl, h.p5, h.p6, h.p7, h.p8, h.p9, h.p10, h.p11, h.p12, h.p13, h.p14, h.p15, h.p16, h.p17, h.p18, h.p19, h.p20, h.p21, h.p22, h.p23, h.p24, h.p26, h.p27, h.p28, h.p29, h.p30, h.p31, h.p32, h.p33, h.p34, h.p35⟩
theorem D21.s5 (h : D21 W1 Lg F lp xs R lb m c kk g ao d RC L x66 x67 x68 x69 x70 x71 x72 x73 x74 x75 x76 x77 x78 x79 x80 x81 x82 x83 x84 x85 x86 x87 x88 x89 x90 x91 x92 x93 x94 x95 x96 x97 x98 x99 x100 x101 W) : D21 W1 Lg F lp xs R lb m c kk g ao d RC (upd L 5) x66 x67 x68 x69 x70 (.pointer (some ⟨g, 0, none⟩)) x72 x73 x74 x75 x76 x77 x78 x79 x80 x81 x82 x83 x84 x85 x86 x87 x88 x89 x90 x91 x92 x93 x94 x95 x96 x97 x98 x99 x100 x101 W :=
  ⟨h.x, h.p0, h.p1, h.p2, h.p3, h.p4, fun _ => rfl, h.p6, h.p7, h.p8, h.p9, h.p10, h.p11, h.p12, h.p13, h.p14, h.p15, h.p16, h.p17, h.p18, h.p19, h.p20, h.p21, h.p22, h.p23, h.p24, h.p26, h.p27, h.p28, h.p29, h.p30, h.p31, h.p32, h.p33, h.p34, h.p35⟩
theorem D21.s6 (h : D21 W1 Lg F lp xs R lb m c kk g ao d RC L x66 x67 x68 x69 x70 x71 x72 x73 x74 x75 x76 x77 x78 x79 x80 x81 x82 x83 x84 x85 x86 x87 x88 x89 x90 x91 x92 x93 x94 x95 x96 x97 x98 x99 x100 x101 W) : D21 W1 Lg F lp xs R lb m c kk g ao d RC (upd L 6) x66 x67 x68 x69 x70 x71 (.pointer (some lp)) x73 x74 x75 x76 x77 x78 x79 x80 x81 x82 x83 x84 x85 x86 x87 x88 x89 x90 x91 x92 x93 x94 x95 x96 x97 x98 x99 x100 x101 W :=
  ⟨h.x, h.p0, h.p1, h.p2, h.p3, h.p4, h.p5, fun _ => rfl, h.p7, h.p8, h.p9, h.p10, h.p11, h.p12, h.p13, h.p14, h.p15, h.p16, h.p17, h.p18, h.p19, h.p20, h.p21, h.p22, h.p23, h.p24, h.p26, h.p27, h.p28, h.p29, h.p30, h.p31, h.p32, h.p33, h.p34, h.p35⟩
theorem D21.s7 (h : D21 W1 Lg F lp xs R lb m c kk g ao d RC L x66 x67 x68 x69 x70 x71 x72 x73 x74 x75 x76 x77 x78 x79 x80 x81 x82 x83 x84 x85 x86 x87 x88 x89 x90 x91 x92 x93 x94 x95 x96 x97 x98 x99 x100 x101 W) (hX : EV1 Lg F W1 lp xs R ((upd L 7) 25) x91 W2) : D21 W1 Lg F lp xs R lb m c kk g ao d RC (upd L 7) x66 x67 x68 x69 x70 x71 x72 (.agg RC.toArray) x74 x75 x76 x77 x78 x79 x80 x81 x82 x83 x84 x85 x86 x87 x88 x89 x90 x91 x92 x93 x94 x95 x96 x97 x98 x99 x100 x101 W2 :=
  ⟨hX, h.p0, h.p1, h.p2, h.p3, h.p4, h.p5, h.p6, fun _ => rfl, h.p8, h.p9, h.p10, h.p11, h.p12, h.p13, h.p14, h.p15, h.p16, h.p17, h.p18, h.p19, h.p20, h.p21, h.p22, h.p23, h.p24, h.p26, h.p27, h.p28, h.p29, h.p30, h.p31, h.p32, h.p33, h.p34, h.p35⟩
theorem D21.s8 (h : D21 W1 Lg F lp xs R lb m c kk g ao d RC L x66 x67 x68 x69 x70 x71 x72 x73 x74 x75 x76 x77 x78 x79 x80 x81 x82 x83 x84 x85 x86 x87 x88 x89 x90 x91 x92 x93 x94 x95 x96 x97 x98 x99 x100 x101 W) : D21 W1 Lg F lp xs R lb m c kk g ao d RC (upd L 8) x66 x67 x68 x69 x70 x71 x72 x73 (.slice (some ⟨lb, 0, none⟩) m c) x75 x76 x77 x78 x79 x80 x81 x82 x83 x84 x85 x86 x87 x88 x89 x90 x91 x92 x93 x94 x95 x96 x97 x98 x99 x100 x101 W :=
  ⟨h.x, h.p0, h.p1, h.p2, h.p3, h.p4, h.p5, h.p6, h.p7, fun _ => rfl, h.p9, h.p10, h.p11, h.p12, h.p13, h.p14, h.p15, h.p16, h.p17, h.p18, h.p19, h.p20, h.p21, h.p22, h.p23, h.p24, h.p26, h.p27, h.p28, h.p29, h.p30, h.p31, h.p32, h.p33, h.p34, h.p35⟩
theorem D21.s9 (h : D21 W1 Lg F lp xs R lb m c kk g ao d RC L x66 x67 x68 x69 x70 x71 x72 x73 x74 x75 x76 x77 x78 x79 x80 x81 x82 x83 x84 x85 x86 x87 x88 x89 x90 x91 x92 x93 x94 x95 x96 x97 x98 x99 x100 x101 W) : D21 W1 Lg F lp xs R lb m c kk g ao d RC (upd L 9) x66 x67 x68 x69 x70 x71 x72 x73 x74 (.int .i64 (kk : Int)) x76 x77 x78 x79 x80 x81 x82 x83 x84 x85 x86 x87 x88 x89 x90 x91 x92 x93 x94 x95 x96 x97 x98 x99 x100 x101 W :=
  ⟨h.x, h.p0, h.p1, h.p2, h.p3, h.p4, h.p5, h.p6, h.p7, h.p8, fun _ => rfl, h.p10, h.p11, h.p12, h.p13, h.p14, h.p15, h.p16, h.p17, h.p18, h.p19, h.p20, h.p21, h.p22, h.p23, h.p24, h.p26, h.p27, h.p28, h.p29, h.p30, h.p31, h.p32, h.p33, h.p34, h.p35⟩
theorem D21.s10 (h : D21 W1 Lg F lp xs R lb m c kk g ao d RC L x66 x67 x68 x69 x70 x71 x72 x73 x74 x75 x76 x77 x78 x79 x80 x81 x82 x83 x84 x85 x86 x87 x88 x89 x90 x91 x92 x93 x94 x95 x96 x97 x98 x99 x100 x101 W) : D21 W1 Lg F lp xs R lb m c kk g ao d RC (upd L 10) x66 x67 x68 x69 x70 x71 x72 x73 x74 x75 (.pointer (some ⟨lb, kk, none⟩)) x77 x78 x79 x80 x81 x82 x83 x84 x85 x86 x87 x88 x89 x90 x91 x92 x93 x94 x95 x96 x97 x98 x99 x100 x101 W :=
  ⟨h.x, h.p0, h.p1, h.p2, h.p3, h.p4, h.p5, h.p6, h.p7, h.p8, h.p9, fun _ => rfl, h.p11, h.p12, h.p13, h.p14, h.p15, h.p16, h.p17, h.p18, h.p19, h.p20, h.p21, h.p22, h.p23, h.p24, h.p26, h.p27, h.p28, h.p29, h.p30, h.p31, h.p32, h.p33, h.p34, h.p35⟩
theorem D21.s11 (h : D21 W1 Lg F lp xs R lb m c kk g ao d RC L x66 x67 x68 x69 x70 x71 x72 x73 x74 x75 x76 x77 x78 x79 x80 x81 x82 x83 x84 x85 x86 x87 x88 x89 x90 x91 x92 x93 x94 x95 x96 x97 x98 x99 x100 x101 W) : D21 W1 Lg F lp xs R lb m c kk g ao d RC (upd L 11) x66 x67 x68 x69 x70 x71 x72 x73 x74 x75 x76 (.pointer (some ⟨g, 0, none⟩)) x78 x79 x80 x81 x82 x83 x84 x85 x86 x87 x88 x89 x90 x91 x92 x93 x94 x95 x96 x97 x98 x99 x100 x101 W :=
  ⟨h.x, h.p0, h.p1, h.p2, h.p3, h.p4, h.p5, h.p6, h.p7, h.p8, h.p9, h.p10, fun _ => rfl, h.p12, h.p13, h.p14, h.p15, h.p16, h.p17, h.p18, h.p19, h.p20, h.p21, h.p22, h.p23, h.p24, h.p26, h.p27, h.p28, h.p29, h.p30, h.p31, h.p32, h.p33, h.p34, h.p35⟩
theorem D21.s12 (h : D21 W1 Lg F lp xs R lb m c kk g ao d RC L x66 x67 x68 x69 x70 x71 x72 x73 x74 x75 x76 x77 x78 x79 x80 x81 x82 x83 x84 x85 x86 x87 x88 x89 x90 x91 x92 x93 x94 x95 x96 x97 x98 x99 x100 x101 W) : D21 W1 Lg F lp xs R lb m c kk g ao d RC (upd L 12) x66 x67 x68 x69 x70 x71 x72 x73 x74 x75 x76 x77 (.pointer (some ⟨g, 0, none⟩)) x79 x80 x81 x82 x83 x84 x85 x86 x87 x88 x89 x90 x91 x92 x93 x94 x95 x96 x97 x98 x99 x100 x101 W :=
  ⟨h.x, h.p0, h.p1, h.p2, h.p3, h.p4, h.p5, h.p6, h.p7, h.p8, h.p9, h.p10, h.p11, fun _ => rfl, h.p13, h.p14, h.p15, h.p16, h.p17, h.p18, h.p19, h.p20, h.p21, h.p22, h.p23, h.p24, h.p26, h.p27, h.p28, h.p29, h.p30, h.p31, h.p32, h.p33, h.p34, h.p35⟩
theorem D21.s13 (h : D21 W1 Lg F lp xs R lb m c kk g ao d RC L x66 x67 x68 x69 x70 x71 x72 x73 x74 x75 x76 x77 x78 x79 x80 x81 x82 x83 x84 x85 x86 x87 x88 x89 x90 x91 x92 x93 x94 x95 x96 x97 x98 x99 x100 x101 W) : D21 W1 Lg F lp xs R lb m c kk g ao d RC (upd L 13) x66 x67 x68 x69 x70 x71 x72 x73 x74 x75 x76 x77 x78 (.pointer (some ⟨g, 1, none⟩)) x80 x81 x82 x83 x84 x85 x86 x87 x88 x89 x90 x91 x92 x93 x94 x95 x96 x97 x98 x99 x100 x101 W :=
  ⟨h.x, h.p0, h.p1, h.p2, h.p3, h.p4, h.p5, h.p6, h.p7, h.p8, h.p9, h.p10, h.p11, h.p12, fun _ => rfl, h.p14, h.p15, h.p16, h.p17, h.p18, h.p19, h.p20, h.p21, h.p22, h.p23, h.p24, h.p26, h.p27, h.p28, h.p29, h.p30, h.p31, h.p32, h.p33, h.p34, h.p35⟩
theorem D21.s14 (h : D21 W1 Lg F lp xs R lb m c kk g ao d RC L x66 x67 x68 x69 x70 x71 x72 x73 x74 x75 x76 x77 x78 x79 x80 x81 x82 x83 x84 x85 x86 x87 x88 x89 x90 x91 x92 x93 x94 x95 x96 x97 x98 x99 x100 x101 W) : D21 W1 Lg F lp xs R lb m c kk g ao d RC (upd L 14) x66 x67 x68 x69 x70 x71 x72 x73 x74 x75 x76 x77 x78 x79 (.slice ao xs.length d) x81 x82 x83 x84 x85 x86 x87 x88 x89 x90 x91 x92 x93 x94 x95 x96 x97 x98 x99 x100 x101 W :=
  ⟨h.x, h.p0, h.p1, h.p2, h.p3, h.p4, h.p5, h.p6, h.p7, h.p8, h.p9, h.p10, h.p11, h.p12, h.p13, fun _ => rfl, h.p15, h.p16, h.p17, h.p18, h.p19, h.p20, h.p21, h.p22, h.p23, h.p24, h.p26, h.p27, h.p28, h.p29, h.p30, h.p31, h.p32, h.p33, h.p34, h.p35⟩
theorem D21.s15 (h : D21 W1 Lg F lp xs R lb m c kk g ao d RC L x66 x67 x68 x69 x70 x71 x72 x73 x74 x75 x76 x77 x78 x79 x80 x81 x82 x83 x84 x85 x86 x87 x88 x89 x90 x91 x92 x93 x94 x95 x96 x97 x98 x99 x100 x101 W) (hX : EV1 Lg F W1 lp xs R ((upd L 15) 25) x91 W2) : D21 W1 Lg F lp xs R lb m c kk g ao d RC (upd L 15) x66 x67 x68 x69 x70 x71 x72 x73 x74 x75 x76 x77 x78 x79 x80 (.agg RC.toArray) x82 x83 x84 x85 x86 x87 x88 x89 x90 x91 x92 x93 x94 x95 x96 x97 x98 x99 x100 x101 W2 :=
  ⟨hX, h.p0, h.p1, h.p2, h.p3, h.p4, h.p5, h.p6, h.p7, h.p8, h.p9, h.p10, h.p11, h.p12, h.p13, h.p14, fun _ => rfl, h.p16, h.p17, h.p18, h.p19, h.p20, h.p21, h.p22, h.p23, h.p24, h.p26, h.p27, h.p28, h.p29, h.p30, h.p31, h.p32, h.p33, h.p34, h.p35⟩
theorem D21.s16 (h : D21 W1 Lg F lp xs R lb m c kk g ao d RC L x66 x67 x68 x69 x70 x71 x72 x73 x74 x75 x76 x77 x78 x79 x80 x81 x82 x83 x84 x85 x86 x87 x88 x89 x90 x91 x92 x93 x94 x95 x96 x97 x98 x99 x100 x101 W) : D21 W1 Lg F lp xs R lb m c kk g ao d RC (upd L 16) x66 x67 x68 x69 x70 x71 x72 x73 x74 x75 x76 x77 x78 x79 x80 x81 (.bool false) x83 x84 x85 x86 x87 x88 x89 x90 x91 x92 x93 x94 x95 x96 x97 x98 x99 x100 x101 W :=
  ⟨h.x, h.p0, h.p1, h.p2, h.p3, h.p4, h.p5, h.p6, h.p7, h.p8, h.p9, h.p10, h.p11, h.p12, h.p13, h.p14, h.p15, fun _ => rfl, h.p17, h.p18, h.p19, h.p20, h.p21, h.p22, h.p23, h.p24, h.p26, h.p27, h.p28, h.p29, h.p30, h.p31, h.p32, h.p33, h.p34, h.p35⟩
theorem D21.s17 (h : D21 W1 Lg F lp xs R lb m c kk g ao d RC L x66 x67 x68 x69 x70 x71 x72 x73 x74 x75 x76 x77 x78 x79 x80 x81 x82 x83 x84 x85 x86 x87 x88 x89 x90 x91 x92 x93 x94 x95 x96 x97 x98 x99 x100 x101 W) : D21 W1 Lg F lp xs R lb m c kk g ao d RC (upd L 17) x66 x67 x68 x69 x70 x71 x72 x73 x74 x75 x76 x77 x78 x79 x80 x81 x82 (.bool false) x84 x85 x86 x87 x88 x89 x90 x91 x92 x93 x94 x95 x96 x97 x98 x99 x100 x101 W :=
  ⟨h.x, h.p0, h.p1, h.p2, h.p3, h.p4, h.p5, h.p6, h.p7, h.p8, h.p9, h.p10, h.p11, h.p12, h.p13, h.p14, h.p15, h.p16, fun _ => rfl, h.p18, h.p19, h.p20, h.p21, h.p22, h.p23, h.p24, h.p26, h.p27, h.p28, h.p29, h.p30, h.p31, h.p32, h.p33, h.p34, h.p35⟩
theorem D21.s18 (h : D21 W1 Lg F lp xs R lb m c kk g ao d RC L x66 x67 x68 x69 x70 x71 x72 x73 x74 x75 x76 x77 x78 x79 x80 x81 x82 x83 x84 x85 x86 x87 x88 x89 x90 x91 x92 x93 x94 x95 x96 x97 x98 x99 x100 x101 W) : D21 W1 Lg F lp xs R lb m c kk g ao d RC (upd L 18) x66 x67 x68 x69 x70 x71 x72 x73 x74 x75 x76 x77 x78 x79 x80 x81 x82 x83 (.slice (some ⟨lb, 0, none⟩) m c) x85 x86 x87 x88 x89 x90 x91 x92 x93 x94 x95 x96 x97 x98 x99 x100 x101 W :=
  ⟨h.x, h.p0, h.p1, h.p2, h.p3, h.p4, h.p5, h.p6, h.p7, h.p8, h.p9, h.p10, h.p11, h.p12, h.p13, h.p14, h.p15, h.p16, h.p17, fun _ => rfl, h.p19, h.p20, h.p21, h.p22, h.p23, h.p24, h.p26, h.p27, h.p28, h.p29, h.p30, h.p31, h.p32, h.p33, h.p34, h.p35⟩
theorem D21.s19 (h : D21 W1 Lg F lp xs R lb m c kk g ao d RC L x66 x67 x68 x69 x70 x71 x72 x73 x74 x75 x76 x77 x78 x79 x80 x81 x82 x83 x84 x85 x86 x87 x88 x89 x90 x91 x92 x93 x94 x95 x96 x97 x98 x99 x100 x101 W) : D21 W1 Lg F lp xs R lb m c kk g ao d RC (upd L 19) x66 x67 x68 x69 x70 x71 x72 x73 x74 x75 x76 x77 x78 x79 x80 x81 x82 x83 x84 (.int .i64 (kk : Int)) x86 x87 x88 x89 x90 x91 x92 x93 x94 x95 x96 x97 x98 x99 x100 x101 W :=
  ⟨h.x, h.p0, h.p1, h.p2, h.p3, h.p4, h.p5, h.p6, h.p7, h.p8, h.p9, h.p10, h.p11, h.p12, h.p13, h.p14, h.p15, h.p16, h.p17, h.p18, fun _ => rfl, h.p20, h.p21, h.p22, h.p23, h.p24, h.p26, h.p27, h.p28, h.p29, h.p30, h.p31, h.p32, h.p33, h.p34, h.p35⟩
theorem D21.s20 (h : D21 W1 Lg F lp xs R lb m c kk g ao d RC L x66 x67 x68 x69 x70 x71 x72 x73 x74 x75 x76 x77 x78 x79 x80 x81 x82 x83 x84 x85 x86 x87 x88 x89 x90 x91 x92 x93 x94 x95 x96 x97 x98 x99 x100 x101 W) : D21 W1 Lg F lp xs R lb m c kk g ao d RC (upd L 20) x66 x67 x68 x69 x70 x71 x72 x73 x74 x75 x76 x77 x78 x79 x80 x81 x82 x83 x84 x85 (.pointer (some ⟨lb, kk, none⟩)) x87 x88 x89 x90 x91 x92 x93 x94 x95 x96 x97 x98 x99 x100 x101 W :=
  ⟨h.x, h.p0, h.p1, h.p2, h.p3, h.p4, h.p5, h.p6, h.p7, h.p8, h.p9, h.p10, h.p11, h.p12, h.p13, h.p14, h.p15, h.p16, h.p17, h.p18, h.p19, fun _ => rfl, h.p21, h.p22, h.p23, h.p24, h.p26, h.p27, h.p28, h.p29, h.p30, h.p31, h.p32, h.p33, h.p34, h.p35⟩
theorem D21.s21 (h : D21 W1 Lg F lp xs R lb m c kk g ao d RC L x66 x67 x68 x69 x70 x71 x72 x73 x74 x75 x76 x77 x78 x79 x80 x81 x82 x83 x84 x85 x86 x87 x88 x89 x90 x91 x92 x93 x94 x95 x96 x97 x98 x99 x100 x101 W) : D21 W1 Lg F lp xs R lb m c kk g ao d RC (upd L 21) x66 x67 x68 x69 x70 x71 x72 x73 x74 x75 x76 x77 x78 x79 x80 x81 x82 x83 x84 x85 x86 (.pointer (some ⟨g, 0, none⟩)) x88 x89 x90 x91 x92 x93 x94 x95 x96 x97 x98 x99 x100 x101 W :=
  ⟨h.x, h.p0, h.p1, h.p2, h.p3, h.p4, h.p5, h.p6, h.p7, h.p8, h.p9, h.p10, h.p11, h.p12, h.p13, h.p14, h.p15, h.p16, h.p17, h.p18, h.p19, h.p20, fun _ => rfl, h.p22, h.p23, h.p24, h.p26, h.p27, h.p28, h.p29, h.p30, h.p31, h.p32, h.p33, h.p34, h.p35⟩
theorem D21.s22 (h : D21 W1 Lg F lp xs R lb m c kk g ao d RC L x66 x67 x68 x69 x70 x71 x72 x73 x74 x75 x76 x77 x78 x79 x80 x81 x82 x83 x84 x85 x86 x87 x88 x89 x90 x91 x92 x93 x94 x95 x96 x97 x98 x99 x100 x101 W) : D21 W1 Lg F lp xs R lb m c kk g ao d RC (upd L 22) x66 x67 x68 x69 x70 x71 x72 x73 x74 x75 x76 x77 x78 x79 x80 x81 x82 x83 x84 x85 x86 x87 (.pointer (some ⟨g, 0, none⟩)) x89 x90 x91 x92 x93 x94 x95 x96 x97 x98 x99 x100 x101 W :=
  ⟨h.x, h.p0, h.p1, h.p2, h.p3, h.p4, h.p5, h.p6, h.p7, h.p8, h.p9, h.p10, h.p11, h.p12, h.p13, h.p14, h.p15, h.p16, h.p17, h.p18, h.p19, h.p20, h.p21, fun _ => rfl, h.p23, h.p24, h.p26, h.p27, h.p28, h.p29, h.p30, h.p31, h.p32, h.p33, h.p34, h.p35⟩
theorem D21.s23 (h : D21 W1 Lg F lp xs R lb m c kk g ao d RC L x66 x67 x68 x69 x70 x71 x72 x73 x74 x75 x76 x77 x78 x79 x80 x81 x82 x83 x84 x85 x86 x87 x88 x89 x90 x91 x92 x93 x94 x95 x96 x97 x98 x99 x100 x101 W) : D21 W1 Lg F lp xs R lb m c kk g ao d RC (upd L 23) x66 x67 x68 x69 x70 x71 x72 x73 x74 x75 x76 x77 x78 x79 x80 x81 x82 x83 x84 x85 x86 x87 x88 (.pointer (some ⟨g, 0, none⟩)) x90 x91 x92 x93 x94 x95 x96 x97 x98 x99 x100 x101 W :=
  ⟨h.x, h.p0, h.p1, h.p2, h.p3, h.p4, h.p5, h.p6, h.p7, h.p8, h.p9, h.p10, h.p11, h.p12, h.p13, h.p14, h.p15, h.p16, h.p17, h.p18, h.p19, h.p20, h.p21, h.p22, fun _ => rfl, h.p24, h.p26, h.p27, h.p28, h.p29, h.p30, h.p31, h.p32, h.p33, h.p34, h.p35⟩
theorem D21.s24 (h : D21 W1 Lg F lp xs R lb m c kk g ao d RC L x66 x67 x68 x69 x70 x71 x72 x73 x74 x75 x76 x77 x78 x79 x80 x81 x82 x83 x84 x85 x86 x87 x88 x89 x90 x91 x92 x93 x94 x95 x96 x97 x98 x99 x100 x101 W) : D21 W1 Lg F lp xs R lb m c kk g ao d RC (upd L 24) x66 x67 x68 x69 x70 x71 x72 x73 x74 x75 x76 x77 x78 x79 x80 x81 x82 x83 x84 x85 x86 x87 x88 x89 (.pointer (some lp)) x91 x92 x93 x94 x95 x96 x97 x98 x99 x100 x101 W :=
  ⟨h.x, h.p0, h.p1, h.p2, h.p3, h.p4, h.p5, h.p6, h.p7, h.p8, h.p9, h.p10, h.p11, h.p12, h.p13, h.p14, h.p15, h.p16, h.p17, h.p18, h.p19, h.p20, h.p21, h.p22, h.p23, fun _ => rfl, h.p26, h.p27, h.p28, h.p29, h.p30, h.p31, h.p32, h.p33, h.p34, h.p35⟩
theorem D21.s25 (h : D21 W1 Lg F lp xs R lb m c kk g ao d RC L x66 x67 x68 x69 x70 x71 x72 x73 x74 x75 x76 x77 x78 x79 x80 x81 x82 x83 x84 x85 x86 x87 x88 x89 x90 x91 x92 x93 x94 x95 x96 x97 x98 x99 x100 x101 W) {v : Value} (hX : EV1 Lg F W1 lp xs R ((upd L 25) 25) v W2) : D21 W1 Lg F lp xs R lb m c kk g ao d RC (upd L 25) x66 x67 x68 x69 x70 x71 x72 x73 x74 x75 x76 x77 x78 x79 x80 x81 x82 x83 x84 x85 x86 x87 x88 x89 x90 v x92 x93 x94 x95 x96 x97 x98 x99 x100 x101 W2 :=
  ⟨hX, h.p0, h.p1, h.p2, h.p3, h.p4, h.p5, h.p6, h.p7, h.p8, h.p9, h.p10, h.p11, h.p12, h.p13, h.p14, h.p15, h.p16, h.p17, h.p18, h.p19, h.p20, h.p21, h.p22, h.p23, h.p24, h.p26, h.p27, h.p28, h.p29, h.p30, h.p31, h.p32, h.p33, h.p34, h.p35⟩
theorem D21.s26 (h : D21 W1 Lg F lp xs R lb m c kk g ao d RC L x66 x67 x68 x69 x70 x71 x72 x73 x74 x75 x76 x77 x78 x79 x80 x81 x82 x83 x84 x85 x86 x87 x88 x89 x90 x91 x92 x93 x94 x95 x96 x97 x98 x99 x100 x101 W) : D21 W1 Lg F lp xs R lb m c kk g ao d RC (upd L 26) x66 x67 x68 x69 x70 x71 x72 x73 x74 x75 x76 x77 x78 x79 x80 x81 x82 x83 x84 x85 x86 x87 x88 x89 x90 x91 (.slice (some ⟨lb, 0, none⟩) m c) x93 x94 x95 x96 x97 x98 x99 x100 x101 W :=
  ⟨h.x, h.p0, h.p1, h.p2, h.p3, h.p4, h.p5, h.p6, h.p7, h.p8, h.p9, h.p10, h.p11, h.p12, h.p13, h.p14, h.p15, h.p16, h.p17, h.p18, h.p19, h.p20, h.p21, h.p22, h.p23, h.p24, fun _ => rfl, h.p27, h.p28, h.p29, h.p30, h.p31, h.p32, h.p33, h.p34, h.p35⟩
theorem D21.s27 (h : D21 W1 Lg F lp xs R lb m c kk g ao d RC L x66 x67 x68 x69 x70 x71 x72 x73 x74 x75 x76 x77 x78 x79 x80 x81 x82 x83 x84 x85 x86 x87 x88 x89 x90 x91 x92 x93 x94 x95 x96 x97 x98 x99 x100 x101 W) : D21 W1 Lg F lp xs R lb m c kk g ao d RC (upd L 27) x66 x67 x68 x69 x70 x71 x72 x73 x74 x75 x76 x77 x78 x79 x80 x81 x82 x83 x84 x85 x86 x87 x88 x89 x90 x91 x92 (.int .i64 (kk : Int)) x94 x95 x96 x97 x98 x99 x100 x101 W :=
  ⟨h.x, h.p0, h.p1, h.p2, h.p3, h.p4, h.p5, h.p6, h.p7, h.p8, h.p9, h.p10, h.p11, h.p12, h.p13, h.p14, h.p15, h.p16, h.p17, h.p18, h.p19, h.p20, h.p21, h.p22, h.p23, h.p24, h.p26, fun _ => rfl, h.p28, h.p29, h.p30, h.p31, h.p32, h.p33, h.p34, h.p35⟩
theorem D21.s28 (h : D21 W1 Lg F lp xs R lb m c kk g ao d RC L x66 x67 x68 x69 x70 x71 x72 x73 x74 x75 x76 x77 x78 x79 x80 x81 x82 x83 x84 x85 x86 x87 x88 x89 x90 x91 x92 x93 x94 x95 x96 x97 x98 x99 x100 x101 W) : D21 W1 Lg F lp xs R lb m c kk g ao d RC (upd L 28) x66 x67 x68 x69 x70 x71 x72 x73 x74 x75 x76 x77 x78 x79 x80 x81 x82 x83 x84 x85 x86 x87 x88 x89 x90 x91 x92 x93 (.pointer (some ⟨lb, kk, none⟩)) x95 x96 x97 x98 x99 x100 x101 W :=
  ⟨h.x, h.p0, h.p1, h.p2, h.p3, h.p4, h.p5, h.p6, h.p7, h.p8, h.p9, h.p10, h.p11, h.p12, h.p13, h.p14, h.p15, h.p16, h.p17, h.p18, h.p19, h.p20, h.p21, h.p22, h.p23, h.p24, h.p26, h.p27, fun _ => rfl, h.p29, h.p30, h.p31, h.p32, h.p33, h.p34, h.p35⟩
theorem D21.s29 (h : D21 W1 Lg F lp xs R lb m c kk g ao d RC L x66 x67 x68 x69 x70 x71 x72 x73 x74 x75 x76 x77 x78 x79 x80 x81 x82 x83 x84 x85 x86 x87 x88 x89 x90 x91 x92 x93 x94 x95 x96 x97 x98 x99 x100 x101 W) : D21 W1 Lg F lp xs R lb m c kk g ao d RC (upd L 29) x66 x67 x68 x69 x70 x71 x72 x73 x74 x75 x76 x77 x78 x79 x80 x81 x82 x83 x84 x85 x86 x87 x88 x89 x90 x91 x92 x93 x94 (.pointer (some ⟨g, 0, none⟩)) x96 x97 x98 x99 x100 x101 W :=
  ⟨h.x, h.p0, h.p1, h.p2, h.p3, h.p4, h.p5, h.p6, h.p7, h.p8, h.p9, h.p10, h.p11, h.p12, h.p13, h.p14, h.p15, h.p16, h.p17, h.p18, h.p19, h.p20, h.p21, h.p22, h.p23, h.p24, h.p26, h.p27, h.p28, fun _ => rfl, h.p30, h.p31, h.p32, h.p33, h.p34, h.p35⟩
theorem D21.s30 (h : D21 W1 Lg F lp xs R lb m c kk g ao d RC L x66 x67 x68 x69 x70 x71 x72 x73 x74 x75 x76 x77 x78 x79 x80 x81 x82 x83 x84 x85 x86 x87 x88 x89 x90 x91 x92 x93 x94 x95 x96 x97 x98 x99 x100 x101 W) : D21 W1 Lg F lp xs R lb m c kk g ao d RC (upd L 30) x66 x67 x68 x69 x70 x71 x72 x73 x74 x75 x76 x77 x78 x79 x80 x81 x82 x83 x84 x85 x86 x87 x88 x89 x90 x91 x92 x93 x94 x95 (.pointer (some ⟨g, 0, none⟩)) x97 x98 x99 x100 x101 W :=
  ⟨h.x, h.p0, h.p1, h.p2, h.p3, h.p4, h.p5, h.p6, h.p7, h.p8, h.p9, h.p10, h.p11, h.p12, h.p13, h.p14, h.p15, h.p16, h.p17, h.p18, h.p19, h.p20, h.p21, h.p22, h.p23, h.p24, h.p26, h.p27, h.p28, h.p29, fun _ => rfl, h.p31, h.p32, h.p33, h.p34, h.p35⟩
theorem D21.s31 (h : D21 W1 Lg F lp xs R lb m c kk g ao d RC L x66 x67 x68 x69 x70 x71 x72 x73 x74 x75 x76 x77 x78 x79 x80 x81 x82 x83 x84 x85 x86 x87 x88 x89 x90 x91 x92 x93 x94 x95 x96 x97 x98 x99 x100 x101 W) : D21 W1 Lg F lp xs R lb m c kk g ao d RC (upd L 31) x66 x67 x68 x69 x70 x71 x72 x73 x74 x75 x76 x77 x78 x79 x80 x81 x82 x83 x84 x85 x86 x87 x88 x89 x90 x91 x92 x93 x94 x95 x96 (.pointer (some ⟨g, 1, none⟩)) x98 x99 x100 x101 W :=
  ⟨h.x, h.p0, h.p1, h.p2, h.p3, h.p4, h.p5, h.p6, h.p7, h.p8, h.p9, h.p10, h.p11, h.p12, h.p13, h.p14, h.p15, h.p16, h.p17, h.p18, h.p19, h.p20, h.p21, h.p22, h.p23, h.p24, h.p26, h.p27, h.p28, h.p29, h.p30, fun _ => rfl, h.p32, h.p33, h.p34, h.p35⟩
theorem D21.s32 (h : D21 W1 Lg F lp xs R lb m c kk g ao d RC L x66 x67 x68 x69 x70 x71 x72 x73 x74 x75 x76 x77 x78 x79 x80 x81 x82 x83 x84 x85 x86 x87 x88 x89 x90 x91 x92 x93 x94 x95 x96 x97 x98 x99 x100 x101 W) : D21 W1 Lg F lp xs R lb m c kk g ao d RC (upd L 32) x66 x67 x68 x69 x70 x71 x72 x73 x74 x75 x76 x77 x78 x79 x80 x81 x82 x83 x84 x85 x86 x87 x88 x89 x90 x91 x92 x93 x94 x95 x96 x97 (.slice ao xs.length d) x99 x100 x101 W :=
  ⟨h.x, h.p0, h.p1, h.p2, h.p3, h.p4, h.p5, h.p6, h.p7, h.p8, h.p9, h.p10, h.p11, h.p12, h.p13, h.p14, h.p15, h.p16, h.p17, h.p18, h.p19, h.p20, h.p21, h.p22, h.p23, h.p24, h.p26, h.p27, h.p28, h.p29, h.p30, h.p31, fun _ => rfl, h.p33, h.p34, h.p35⟩
theorem D21.s33 (h : D21 W1 Lg F lp xs R lb m c kk g ao d RC L x66 x67 x68 x69 x70 x71 x72 x73 x74 x75 x76 x77 x78 x79 x80 x81 x82 x83 x84 x85 x86 x87 x88 x89 x90 x91 x92 x93 x94 x95 x96 x97 x98 x99 x100 x101 W) (hX : EV1 Lg F W1 lp xs R ((upd L 33) 25) x91 W2) : D21 W1 Lg F lp xs R lb m c kk g ao d RC (upd L 33) x66 x67 x68 x69 x70 x71 x72 x73 x74 x75 x76 x77 x78 x79 x80 x81 x82 x83 x84 x85 x86 x87 x88 x89 x90 x91 x92 x93 x94 x95 x96 x97 x98 (.bool true) x100 x101 W2 :=
  ⟨hX, h.p0, h.p1, h.p2, h.p3, h.p4, h.p5, h.p6, h.p7, h.p8, h.p9, h.p10, h.p11, h.p12, h.p13, h.p14, h.p15, h.p16, h.p17, h.p18, h.p19, h.p20, h.p21, h.p22, h.p23, h.p24, h.p26, h.p27, h.p28, h.p29, h.p30, h.p31, h.p32, fun _ => rfl, h.p34, h.p35⟩
theorem D21.s34 (h : D21 W1 Lg F lp xs R lb m c kk g ao d RC L x66 x67 x68 x69 x70 x71 x72 x73 x74 x75 x76 x77 x78 x79 x80 x81 x82 x83 x84 x85 x86 x87 x88 x89 x90 x91 x92 x93 x94 x95 x96 x97 x98 x99 x100 x101 W) : D21 W1 Lg F lp xs R lb m c kk g ao d RC (upd L 34) x66 x67 x68 x69 x70 x71 x72 x73 x74 x75 x76 x77 x78 x79 x80 x81 x82 x83 x84 x85 x86 x87 x88 x89 x90 x91 x92 x93 x94 x95 x96 x97 x98 x99 (.bool false) x101 W :=
  ⟨h.x, h.p0, h.p1, h.p2, h.p3, h.p4, h.p5, h.p6, h.p7, h.p8, h.p9, h.p10, h.p11, h.p12, h.p13, h.p14, h.p15, h.p16, h.p17, h.p18, h.p19, h.p20, h.p21, h.p22, h.p23, h.p24, h.p26, h.p27, h.p28, h.p29, h.p30, h.p31, h.p32, h.p33, fun _ => rfl, h.p35⟩
theorem D21.s35 (h : D21 W1 Lg F lp xs R lb m c kk g ao d RC L x66 x67 x68 x69 x70 x71 x72 x73 x74 x75 x76 x77 x78 x79 x80 x81 x82 x83 x84 x85 x86 x87 x88 x89 x90 x91 x92 x93 x94 x95 x96 x97 x98 x99 x100 x101 W) : D21 W1 Lg F lp xs R lb m c kk g ao d RC (upd L 35) x66 x67 x68 x69 x70 x71 x72 x73 x74 x75 x76 x77 x78 x79 x80 x81 x82 x83 x84 x85 x86 x87 x88 x89 x90 x91 x92 x93 x94 x95 x96 x97 x98 x99 x100 (.bool false) W :=
  ⟨h.x, h.p0, h.p1, h.p2, h.p3, h.p4, h.p5, h.p6, h.p7, h.p8, h.p9, h.p10, h.p11, h.p12, h.p13, h.p14, h.p15, h.p16, h.p17, h.p18, h.p19, h.p20, h.p21, h.p22, h.p23, h.p24, h.p26, h.p27, h.p28, h.p29, h.p30, h.p31, h.p32, h.p33, h.p34, fun _ => rfl⟩
end
@[reducible] def ID21 (W1 : World) (Lg : (Nat → Prop) → World → Addr → List EvV → Prop) (F : Nat → Prop) (lp : Addr) (xs : List EvV) (R : List (Nat × Obj)) (lb m c kk g : Nat) (ao : Option Addr) (d : Nat) (RC : List Value) (y0 y1 y2 y3 y4 y5 y6 y7 y8 y9 y10 y11 y12 y13 y14 y15 y16 y17 y18 y19 y20 y21 y22 y23 y24 y25 y26 y27 y28 y29 y30 y31 y32 y33 y34 y35 y36 y37 y38 y39 y40 y41 y42 y43 y44 y45 y46 y47 y48 y49 y50 y51 y52 y53 y54 y55 y56 y57 y58 y59 y60 y61 y62 y63 y64 y65 y102 : Value) : (Nat → Bool) → Act → World → Prop := fun L a W => ∃ x66 x67 x68 x69 x70 x71 x72 x73 x74 x75 x76 x77 x78 x79 x80 x81 x82 x83 x84 x85 x86 x87 x88 x89 x90 x91 x92 x93 x94 x95 x96 x97 x98 x99 x100 x101, a = ⟨#[y0, y1, y2, y3, y4, y5, y6, y7, y8, y9, y10, y11, y12, y13, y14, y15, y16, y17, y18, y19, y20, y21, y22, y23, y24, y25, y26, y27, y28, y29, y30, y31, y32, y33, y34, y35, y36, y37, y38, y39, y40, y41, y42, y43, y44, y45, y46, y47, y48, y49, y50, y51, y52, y53, y54, y55, y56, y57, y58, y59, y60, y61, y62, y63, y64, y65, x66, x67, x68, x69, x70, x71, x72, x73, x74, x75, x76, x77, x78, x79, x80, x81, x82, x83, x84, x85, x86, x87, x88, x89, x90, x91, x92, x93, x94, x95, x96, x97, x98, x99, x100, x101, y102], []⟩ ∧ D21 W1 Lg F lp xs R lb m c kk g ao d RC L x66 x67 x68 x69 x70 x71 x72 x73 x74 x75 x76 x77 x78 x79 x80 x81 x82 x83 x84 x85 x86 x87 x88 x89 x90 x91 x92 x93 x94 x95 x96 x97 x98 x99 x100 x101 W
theorem D21.step {W1 : World} {Lg : (Nat → Prop) → World → Addr → List EvV → Prop} {F : Nat → Prop} {lp : Addr} {xs : List EvV} {R : List (Nat × Obj)} {lb m c kk g : Nat} {ao : Option Addr} {d : Nat} {RC : List Value} {y0 y1 y2 y3 y4 y5 y6 y7 y8 y9 y10 y11 y12 y13 y14 y15 y16 y17 y18 y19 y20 y21 y22 y23 y24 y25 y26 y27 y28 y29 y30 y31 y32 y33 y34 y35 y36 y37 y38 y39 y40 y41 y42 y43 y44 y45 y46 y47 y48 y49 y50 y51 y52 y53 y54 y55 y56 y57 y58 y59 y60 y61 y62 y63 y64 y65 y102 : Value} {P : Program} {ops : Array Oper} {Q : Exit → Act → World → Prop} {i : Nat} {o : Oper} (hq : ∀ x66 x67 x68 x69 x70 x71 x72 x73 x74 x75 x76 x77 x78 x79 x80 x81 x82 x83 x84 x85 x86 x87 x88 x89 x90 x91 x92 x93 x94 x95 x96 x97 x98 x99 x100 x101 (L : Nat → Bool) (W : World), D21 W1 Lg F lp xs R lb m c kk g ao d RC L x66 x67 x68 x69 x70 x71 x72 x73 x74 x75 x76 x77 x78 x79 x80 x81 x82 x83 x84 x85 x86 x87 x88 x89 x90 x91 x92 x93 x94 x95 x96 x97 x98 x99 x100 x101 W → L i = false → (∀ j ∈ onesOf o, L j = true) → ∀ K : Act → World → Prop, Shut (∀ a' w', ID21 W1 Lg F lp xs R lb m c kk g ao d RC y0 y1 y2 y3 y4 y5 y6 y7 y8 y9 y10 y11 y12 y13 y14 y15 y16 y17 y18 y19 y20 y21 y22 y23 y24 y25 y26 y27 y28 y29 y30 y31 y32 y33 y34 y35 y36 y37 y38 y39 y40 y41 y42 y43 y44 y45 y46 y47 y48 y49 y50 y51 y52 y53 y54 y55 y56 y57 y58 y59 y60 y61 y62 y63 y64 y65 y102 (upd L i) a' w' → K a' w') → if Region.wanted o (yielded ops (⟨#[y0, y1, y2, y3, y4, y5, y6, y7, y8, y9, y10, y11, y12, y13, y14, y15, y16, y17, y18, y19, y20, y21, y22, y23, y24, y25, y26, y27, y28, y29, y30, y31, y32, y33, y34, y35, y36, y37, y38, y39, y40, y41, y42, y43, y44, y45, y46, y47, y48, y49, y50, y51, y52, y53, y54, y55, y56, y57, y58, y59, y60, y61, y62, y63, y64, y65, x66, x67, x68, x69, x70, x71, x72, x73, x74, x75, x76, x77, x78, x79, x80, x81, x82, x83, x84, x85, x86, x87, x88, x89, x90, x91, x92, x93, x94, x95, x96, x97, x98, x99, x100, x101, y102], []⟩ : Act).tmps) = true then Oper.wp P o ⟨#[y0, y1, y2, y3, y4, y5, y6, y7, y8, y9, y10, y11, y12, y13, y14, y15, y16, y17, y18, y19, y20, y21, y22, y23, y24, y25, y26, y27, y28, y29, y30, y31, y32, y33, y34, y35, y36, y37, y38, y39, y40, y41, y42, y43, y44, y45, y46, y47, y48, y49, y50, y51, y52, y53, y54, y55, y56, y57, y58, y59, y60, y61, y62, y63, y64, y65, x66, x67, x68, x69, x70, x71, x72, x73, x74, x75, x76, x77, x78, x79, x80, x81, x82, x83, x84, x85, x86, x87, x88, x89, x90, x91, x92, x93, x94, x95, x96, x97, x98, x99, x100, x101, y102], []⟩ W K Q else K ((⟨#[y0, y1, y2, y3, y4, y5, y6, y7, y8, y9, y10, y11, y12, y13, y14, y15, y16, y17, y18, y19, y20, y21, y22, y23, y24, y25, y26, y27, y28, y29, y30, y31, y32, y33, y34, y35, y36, y37, y38, y39, y40, y41, y42, y43, y44, y45, y46, y47, y48, y49, y50, y51, y52, y53, y54, y55, y56, y57, y58, y59, y60, y61, y62, y63, y64, y65, x66, x67, x68, x69, x70, x71, x72, x73, x74, x75, x76, x77, x78, x79, x80, x81, x82, x83, x84, x85, x86, x87, x88, x89, x90, x91, x92, x93, x94, x95, x96, x97, x98, x99, x100, x101, y102], []⟩ : Act).put o.dst undef) W) : StepI P ops (ID21 W1 Lg F lp xs R lb m c kk g ao d RC y0 y1 y2 y3 y4 y5 y6 y7 y8 y9 y10 y11 y12 y13 y14 y15 y16 y17 y18 y19 y20 y21 y22 y23 y24 y25 y26 y27 y28 y29 y30 y31 y32 y33 y34 y35 y36 y37 y38 y39 y40 y41 y42 y43 y44 y45 y46 y47 y48 y49 y50 y51 y52 y53 y54 y55 y56 y57 y58 y59 y60 y61 y62 y63 y64 y65 y102) Q i o := by
  rintro L a W ⟨x66, x67, x68, x69, x70, x71, x72, x73, x74, x75, x76, x77, x78, x79, x80, x81, x82, x83, x84, x85, x86, x87, x88, x89, x90, x91, x92, x93, x94, x95, x96, x97, x98, x99, x100, x101, rfl, h⟩
  exact hq _ _ _ _ _ _ _ _ _ _ _ _ _ _ _ _ _ _ _ _ _ _ _ _ _ _ _ _ _ _ _ _ _ _ _ _ _ _ h
theorem D21.ends {W1 : World} {Lg : (Nat → Prop) → World → Addr → List EvV → Prop} {F : Nat → Prop} {lp : Addr} {xs : List EvV} {R : List (Nat × Obj)} {lb m c kk g : Nat} {ao : Option Addr} {d : Nat} {RC : List Value} {y0 y1 y2 y3 y4 y5 y6 y7 y8 y9 y10 y11 y12 y13 y14 y15 y16 y17 y18 y19 y20 y21 y22 y23 y24 y25 y26 y27 y28 y29 y30 y31 y32 y33 y34 y35 y36 y37 y38 y39 y40 y41 y42 y43 y44 y45 y46 y47 y48 y49 y50 y51 y52 y53 y54 y55 y56 y57 y58 y59 y60 y61 y62 y63 y64 y65 y102 : Value} {mm_ : Nat} {Q : Exit → Act → World → Prop} (hq : ∀ x66 x67 x68 x69 x70 x71 x72 x73 x74 x75 x76 x77 x78 x79 x80 x81 x82 x83 x84 x85 x86 x87 x88 x89 x90 x91 x92 x93 x94 x95 x96 x97 x98 x99 x100 x101 (L : Nat → Bool) (W : World), (∀ j, j < mm_ → L j = true) → D21 W1 Lg F lp xs R lb m c kk g ao d RC L x66 x67 x68 x69 x70 x71 x72 x73 x74 x75 x76 x77 x78 x79 x80 x81 x82 x83 x84 x85 x86 x87 x88 x89 x90 x91 x92 x93 x94 x95 x96 x97 x98 x99 x100 x101 W → Q .normal ⟨#[y0, y1, y2, y3, y4, y5, y6, y7, y8, y9, y10, y11, y12, y13, y14, y15, y16, y17, y18, y19, y20, y21, y22, y23, y24, y25, y26, y27, y28, y29, y30, y31, y32, y33, y34, y35, y36, y37, y38, y39, y40, y41, y42, y43, y44, y45, y46, y47, y48, y49, y50, y51, y52, y53, y54, y55, y56, y57, y58, y59, y60, y61, y62, y63, y64, y65, x66, x67, x68, x69, x70, x71, x72, x73, x74, x75, x76, x77, x78, x79, x80, x81, x82, x83, x84, x85, x86, x87, x88, x89, x90, x91, x92, x93, x94, x95, x96, x97, x98, x99, x100, x101, y102], []⟩ W) : ∀ L a' w', (∀ j, j < mm_ → L j = true) → ID21 W1 Lg F lp xs R lb m c kk g ao d RC y0 y1 y2 y3 y4 y5 y6 y7 y8 y9 y10 y11 y12 y13 y14 y15 y16 y17 y18 y19 y20 y21 y22 y23 y24 y25 y26 y27 y28 y29 y30 y31 y32 y33 y34 y35 y36 y37 y38 y39 y40 y41 y42 y43 y44 y45 y46 y47 y48 y49 y50 y51 y52 y53 y54 y55 y56 y57 y58 y59 y60 y61 y62 y63 y64 y65 y102 L a' w' → Q .normal a' w' := by
  rintro L a W hall ⟨x66, x67, x68, x69, x70, x71, x72, x73, x74, x75, x76, x77, x78, x79, x80, x81, x82, x83, x84, x85, x86, x87, x88, x89, x90, x91, x92, x93, x94, x95, x96, x97, x98, x99, x100, x101, rfl, h⟩
  exact hq _ _ _ _ _ _ _ _ _ _ _ _ _ _ _ _ _ _ _ _ _ _ _ _ _ _ _ _ _ _ _ _ _ _ _ _ _ _ hall h
/-- The loop at the end: each book against its events. -/
def zOp : List Value := [.int .i64 0, .int .i64 0] ++ (z32 ++ [.int .i64 0]) ++ [.slice none 0 0, .slice none 0 0]
theorem rem_at (on : Int) {n : Nat} (h0 : 0 < n) : ∃ kk : Nat, kk < n ∧ ((0 ≤ on.tmod n ∧ on.tmod n = kk) ∨ (on.tmod n < 0 ∧ on.tmod n + n = kk)) := by
  have g0 : (0 : Int) < (n : Int) := by omega
  have h1 := Int.tmod_lt_of_pos on g0
  have h2 := Int.lt_tmod_of_pos on g0
  by_cases h0 : 0 ≤ on.tmod n
  · exact ⟨(on.tmod n).toNat, by omega, .inl ⟨h0, by omega⟩⟩
  · exact ⟨(on.tmod n + n).toNat, by omega, .inr ⟨by omega, by omega⟩⟩

set_option maxHeartbeats 4000000 in
set_option maxRecDepth 1000000 in
theorem does4 {Lg : (Nat → Prop) → World → Addr → List EvV → Prop} (C : Chn Lg) (w wo : World) (lb c : Nat) (gs : List Nat) (hbs : BS Lg w (fun j => j = lb) wo lb c gs) (hgs : gs.length ≤ 140737488355328) (c0 c1 c2 c4 c5 c6 c7 c8 c9 c10 c11 c12 c13 c14 c15 c16 c17 c18 c19 c20 c21 c22 c23 c24 c25 c26 c27 c28 c29 c30 c31 c32 c33 c34 c35 c36 c37 c38 c39 c40 c41 c42 c43 c44 c45 c46 c47 c48 c49 c50 c51 c52 c53 c54 c55 c56 c57 c58 c59 c60 c61 c62 c63 c64 c65 c66 c67 c68 c69 c70 c71 c72 c73 c74 c75 c76 c77 c78 c79 c80 c81 c82 c83 c84 c85 c86 c87 c88 c89 c90 c91 c92 c93 c94 c95 c96 c97 c98 c99 c100 c101 c102 : Value) :
    Code.wp Try.prog (dropS 4 (Try.f4.body.getD .skip)) (bodyPost Try.prog Try.f4 (KP w)) ⟨#[c0, c1, c2, .slice (some ⟨lb, 0, none⟩) gs.length c, c4, c5, c6, c7, c8, c9, c10, c11, c12, c13, c14, c15, c16, c17, c18, c19, c20, c21, c22, c23, c24, c25, c26, c27, c28, c29, c30, c31, c32, c33, c34, c35, c36, c37, c38, c39, c40, c41, c42, c43, c44, c45, c46, c47, c48, c49, c50, c51, c52, c53, c54, c55, c56, c57, c58, c59, c60, c61, c62, c63, c64, c65, c66, c67, c68, c69, c70, c71, c72, c73, c74, c75, c76, c77, c78, c79, c80, c81, c82, c83, c84, c85, c86, c87, c88, c89, c90, c91, c92, c93, c94, c95, c96, c97, c98, c99, c100, c101, c102], []⟩ wo := by
  have HC : Hid (Chn Lg) := C
  have HB : Hid (BS Lg w (fun j => j = lb) wo lb c gs) := hbs
  have FX : Hid (∀ W, Calls Try.prog 8 #[] W fun e w' => e = .returned (.bool true) ∧ Below W.heap.size W w') := fun W => fixed_any HC.out W
  obtain ⟨m, hm⟩ : ∃ m, m = gs.length := ⟨_, rfl⟩
  have HM : Hid (gs.length = m) := hm.symm
  rw [← hm] at hgs
  rw [← hm]
  clear hm C hbs
  conv => arg 2; whnf
  go_wp2_with fail
  go_loopw [8] (fun iv wr => ∃ q : Nat, q ≤ m ∧ iv = .int .i64 q ∧ Hid (BS Lg w (fun j => j = lb) wr lb c gs)) (fun iv _ => m - (intOf iv).toNat)
  case atStart => exact ⟨0, by omega, rfl, HB.out⟩
  case round =>
    clear HB
    obtain ⟨kk, hq, rfl, HB⟩ := hrel
    by_cases hlt2 : kk < m
    · have q1 : (0 : Int) ≤ (kk : Int) := by omega
      have q2 : (kk : Int) < (m : Int) := by omega
      obtain ⟨wq, hwq⟩ : ∃ wq, wq = wr := ⟨wr, rfl⟩
      subst hwq
      obtain ⟨g, F, xs, hg, hcell, hk, hN, hO, hnext⟩ := HB.out.at HC.out (i := kk) (by rw [HM.out]; exact hlt2)
      obtain ⟨ob0, hob0⟩ : ∃ o, wq.heap[lb]? = some o := ⟨_, Array.getElem?_eq_getElem HB.out.lt⟩
      obtain ⟨lp, ao, d, B, ob, hF, hFg, hFB, hao, hnil, hev⟩ := hk.fb hob0 (hO lb rfl)
      obtain ⟨R, hR⟩ : ∃ R, R = [(lb, ob0), (g, .cells #[.pointer (some lp), .slice ao xs.length d] 29 (0, 0)), (B, ob)] := ⟨_, rfl⟩
      rw [← hR] at hF
      have mL : (lb, ob0) ∈ R := by rw [hR]; exact List.mem_cons_self ..
      have mG : (g, Obj.cells #[.pointer (some lp), .slice ao xs.length d] 29 (0, 0)) ∈ R := by rw [hR]; exact List.mem_cons_of_mem _ (List.mem_cons_self ..)
      have mB : (B, ob) ∈ R := by rw [hR]; exact List.mem_cons_of_mem _ (List.mem_cons_of_mem _ (List.mem_cons_self ..))
      have hn1 : xs.length ≤ 1024 := hF.len HC.out
      have hxo : ∀ y ∈ xs, EvOk y := (hev _ (hF.blk mB)).all
      have P0 : Hid (FB Lg F wq lp xs R wq) := hF
      have CL : Hid (∀ W, FB Lg F wq lp xs R W → W.cell? ⟨lb, kk, none⟩ = some (.pointer (some ⟨g, 0, none⟩))) := fun W h => (cell_blk (p := ⟨lb, kk, none⟩) ((h.blk mL).trans hob0.symm)).trans hcell
      have CG : Hid (∀ W, FB Lg F wq lp xs R W → W.cell? ⟨g, 0, none⟩ = some (.pointer (some lp)) ∧ W.cell? ⟨g, 1, none⟩ = some (.slice ao xs.length d)) := fun W h => by
        have hr : Row W g 29 [.pointer (some lp), .slice ao xs.length d] := h.blk mG
        exact ⟨hr.cell 0 _ rfl, hr.cell 1 _ rfl⟩
      have RG : Hid (∀ l v W, EV1 Lg F wq lp xs R l v W → Calls Try.prog 11 #[.pointer (some lp)] W fun e w' => e = .returned (.agg ((reg xs).map B8).toArray) ∧ EV1 Lg F wq lp xs R l v w') := fun l v W h => h.reg HC.out
      have RR : Hid (∀ l v W, EV1 Lg F wq lp xs R l v W → Calls Try.prog 12 #[.slice ao xs.length d] W fun e w' => e = .returned (.agg ((reg xs).map B8).toArray) ∧ EV1 Lg F wq lp xs R l v w') := fun l v W h =>
        (rregister_any W ao xs.length d B 0 xs rfl (by omega) (fun h0 => (hao h0).1) (hev W (h.fb.blk mB))).mono fun e w' ⟨e1, k1⟩ => ⟨e1, h.below HC.out k1⟩
      have SM : Hid (∀ l v W, EV1 Lg F wq lp xs R l v W → l = true → Calls Try.prog 13 #[v, .slice ao xs.length d] W fun e w' => e = .returned (.bool true) ∧ EV1 Lg F wq lp xs R l v w') := fun l v W h hl =>
        h.same HC.out hl hxo hn1 ao d B (fun h0 => (hao h0).1) (hev W (h.fb.blk mB))
      have EN : Hid (∀ W, FB Lg F wq lp xs R W → BS Lg w (fun j => j = lb) W lb c gs) := fun W h => by
        obtain ⟨F', k1, k2, k3⟩ := Bk.of_fb HC.out h (g := g) (ao := ao) (c := d) (B := B) (ob := ob) mG mB (.inl hFg) (.inl hFB) hao hnil (hev W (h.blk mB))
        exact hnext F' xs W k1 k2 k3 fun j hj => by have hj : j = lb := hj; subst hj; exact HB.out.lt
      have qe := eq_any (reg xs) (reg xs) (reg_len _) (reg_len _) true (by rw [decide_eq_true rfl])
      clear hF hao hnil hev hFg hFB hnext hob0 hcell hk hN hO hR mL mG mB hxo HB hg
      generalize (reg xs).map B8 = RC at *
      go_wp2_with fail
      refine wp_region_inv (ID21 wq Lg F lp xs R lb m c kk g ao d RC _ _ _ _ _ _ _ _ _ _ _ _ _ _ _ _ _ _ _ _ _ _ _ _ _ _ _ _ _ _ _ _ _ _ _ _ _ _ _ _ _ _ _ _ _ _ _ _ _ _ _ _ _ _ _ _ _ _ _ _ _ _ _ _ _ _ _) (by kernel_rfl) (by kernel_rfl) ⟨_, _, _, _, _, _, _, _, _, _, _, _, _, _, _, _, _, _, _, _, _, _, _, _, _, _, _, _, _, _, _, _, _, _, _, _, rfl, ⟨EV1.zero (P0.out.drew HC.out) _, fun k => (by cases k), fun k => (by cases k), fun k => (by cases k), fun k => (by cases k), fun k => (by cases k), fun k => (by cases k), fun k => (by cases k), fun k => (by cases k), fun k => (by cases k), fun k => (by cases k), fun k => (by cases k), fun k => (by cases k), fun k => (by cases k), fun k => (by cases k), fun k => (by cases k), fun k => (by cases k), fun k => (by cases k), fun k => (by cases k), fun k => (by cases k), fun k => (by cases k), fun k => (by cases k), fun k => (by cases k), fun k => (by cases k), fun k => (by cases k), fun k => (by cases k), fun k => (by cases k), fun k => (by cases k), fun k => (by cases k), fun k => (by cases k), fun k => (by cases k), fun k => (by cases k), fun k => (by cases k), fun k => (by cases k), fun k => (by cases k), fun k => (by cases k)⟩⟩ ?_ ?_
      · refine .cons ?_ (.cons ?_ (.cons ?_ (.cons ?_ (.cons ?_ (.cons ?_ (.cons ?_ (.cons ?_ (.cons ?_ (.cons ?_ (.cons ?_ (.cons ?_ (.cons ?_ (.cons ?_ (.cons ?_ (.cons ?_ (.cons ?_ (.cons ?_ (.cons ?_ (.cons ?_ (.cons ?_ (.cons ?_ (.cons ?_ (.cons ?_ (.cons ?_ (.cons ?_ (.cons ?_ (.cons ?_ (.cons ?_ (.cons ?_ (.cons ?_ (.cons ?_ (.cons ?_ (.cons ?_ (.cons ?_ (.cons ?_ .nil)))))))))))))))))))))))))))))))))))
        all_goals (refine D21.step ?_; intro x66 x67 x68 x69 x70 x71 x72 x73 x74 x75 x76 x77 x78 x79 x80 x81 x82 x83 x84 x85 x86 x87 x88 x89 x90 x91 x92 x93 x94 x95 x96 x97 x98 x99 x100 x101 L W hI hL hd K hK)
        · rw [if_pos (by rfl)]
          go_simp
          exact hK.out _ _ ⟨_, _, _, _, _, _, _, _, _, _, _, _, _, _, _, _, _, _, _, _, _, _, _, _, _, _, _, _, _, _, _, _, _, _, _, _, rfl, hI.s0⟩
        · rw [if_pos (by rfl)]
          go_simp
          exact hK.out _ _ ⟨_, _, _, _, _, _, _, _, _, _, _, _, _, _, _, _, _, _, _, _, _, _, _, _, _, _, _, _, _, _, _, _, _, _, _, _, rfl, hI.s1⟩
        · have hx0 := hI.p0 (hd 0 (by decide))
          subst hx0
          have hx1 := hI.p1 (hd 1 (by decide))
          subst hx1
          rw [if_pos (by rfl)]
          go_simp
          exact hK.out _ _ ⟨_, _, _, _, _, _, _, _, _, _, _, _, _, _, _, _, _, _, _, _, _, _, _, _, _, _, _, _, _, _, _, _, _, _, _, _, rfl, hI.s2⟩
        · have hx2 := hI.p2 (hd 2 (by decide))
          subst hx2
          rw [if_pos (by rfl)]
          have hc := CL.out _ hI.x.fb
          go_simp
          exact hK.out _ _ ⟨_, _, _, _, _, _, _, _, _, _, _, _, _, _, _, _, _, _, _, _, _, _, _, _, _, _, _, _, _, _, _, _, _, _, _, _, rfl, hI.s3⟩
        · have hx3 := hI.p3 (hd 3 (by decide))
          subst hx3
          rw [if_pos (by rfl)]
          go_simp
          exact hK.out _ _ ⟨_, _, _, _, _, _, _, _, _, _, _, _, _, _, _, _, _, _, _, _, _, _, _, _, _, _, _, _, _, _, _, _, _, _, _, _, rfl, hI.s4⟩
        · have hx4 := hI.p4 (hd 4 (by decide))
          subst hx4
          rw [if_pos (by rfl)]
          go_simp
          exact hK.out _ _ ⟨_, _, _, _, _, _, _, _, _, _, _, _, _, _, _, _, _, _, _, _, _, _, _, _, _, _, _, _, _, _, _, _, _, _, _, _, rfl, hI.s5⟩
        · have hx5 := hI.p5 (hd 5 (by decide))
          subst hx5
          rw [if_pos (by rfl)]
          have hc := (CG.out _ hI.x.fb).1
          go_simp
          exact hK.out _ _ ⟨_, _, _, _, _, _, _, _, _, _, _, _, _, _, _, _, _, _, _, _, _, _, _, _, _, _, _, _, _, _, _, _, _, _, _, _, rfl, hI.s6⟩
        · have hx6 := hI.p6 (hd 6 (by decide))
          subst hx6
          rw [if_pos (by rfl)]
          go_simp
          refine (RG.out _ _ _ hI.x).mono ?_
          rintro e W2 ⟨rfl, hX⟩
          go_simp
          exact hK.out _ _ ⟨_, _, _, _, _, _, _, _, _, _, _, _, _, _, _, _, _, _, _, _, _, _, _, _, _, _, _, _, _, _, _, _, _, _, _, _, rfl, hI.s7 hX⟩
        · rw [if_pos (by rfl)]
          go_simp
          exact hK.out _ _ ⟨_, _, _, _, _, _, _, _, _, _, _, _, _, _, _, _, _, _, _, _, _, _, _, _, _, _, _, _, _, _, _, _, _, _, _, _, rfl, hI.s8⟩
        · rw [if_pos (by rfl)]
          go_simp
          exact hK.out _ _ ⟨_, _, _, _, _, _, _, _, _, _, _, _, _, _, _, _, _, _, _, _, _, _, _, _, _, _, _, _, _, _, _, _, _, _, _, _, rfl, hI.s9⟩
        · have hx8 := hI.p8 (hd 8 (by decide))
          subst hx8
          have hx9 := hI.p9 (hd 9 (by decide))
          subst hx9
          rw [if_pos (by rfl)]
          go_simp
          exact hK.out _ _ ⟨_, _, _, _, _, _, _, _, _, _, _, _, _, _, _, _, _, _, _, _, _, _, _, _, _, _, _, _, _, _, _, _, _, _, _, _, rfl, hI.s10⟩
        · have hx10 := hI.p10 (hd 10 (by decide))
          subst hx10
          rw [if_pos (by rfl)]
          have hc := CL.out _ hI.x.fb
          go_simp
          exact hK.out _ _ ⟨_, _, _, _, _, _, _, _, _, _, _, _, _, _, _, _, _, _, _, _, _, _, _, _, _, _, _, _, _, _, _, _, _, _, _, _, rfl, hI.s11⟩
        · have hx11 := hI.p11 (hd 11 (by decide))
          subst hx11
          rw [if_pos (by rfl)]
          go_simp
          exact hK.out _ _ ⟨_, _, _, _, _, _, _, _, _, _, _, _, _, _, _, _, _, _, _, _, _, _, _, _, _, _, _, _, _, _, _, _, _, _, _, _, rfl, hI.s12⟩
        · have hx12 := hI.p12 (hd 12 (by decide))
          subst hx12
          rw [if_pos (by rfl)]
          go_simp
          exact hK.out _ _ ⟨_, _, _, _, _, _, _, _, _, _, _, _, _, _, _, _, _, _, _, _, _, _, _, _, _, _, _, _, _, _, _, _, _, _, _, _, rfl, hI.s13⟩
        · have hx13 := hI.p13 (hd 13 (by decide))
          subst hx13
          rw [if_pos (by rfl)]
          have hc := (CG.out _ hI.x.fb).2
          go_simp
          exact hK.out _ _ ⟨_, _, _, _, _, _, _, _, _, _, _, _, _, _, _, _, _, _, _, _, _, _, _, _, _, _, _, _, _, _, _, _, _, _, _, _, rfl, hI.s14⟩
        · have hx14 := hI.p14 (hd 14 (by decide))
          subst hx14
          rw [if_pos (by rfl)]
          go_simp
          refine (RR.out _ _ _ hI.x).mono ?_
          rintro e W2 ⟨rfl, hX⟩
          go_simp
          exact hK.out _ _ ⟨_, _, _, _, _, _, _, _, _, _, _, _, _, _, _, _, _, _, _, _, _, _, _, _, _, _, _, _, _, _, _, _, _, _, _, _, rfl, hI.s15 hX⟩
        · have hx7 := hI.p7 (hd 7 (by decide))
          subst hx7
          have hx15 := hI.p15 (hd 15 (by decide))
          subst hx15
          rw [if_pos (by rfl)]
          go_simp
          exact hK.out _ _ ⟨_, _, _, _, _, _, _, _, _, _, _, _, _, _, _, _, _, _, _, _, _, _, _, _, _, _, _, _, _, _, _, _, _, _, _, _, rfl, hI.s16⟩
        · have hx16 := hI.p16 (hd 16 (by decide))
          subst hx16
          rw [if_pos (by rfl)]
          go_simp
          exact hK.out _ _ ⟨_, _, _, _, _, _, _, _, _, _, _, _, _, _, _, _, _, _, _, _, _, _, _, _, _, _, _, _, _, _, _, _, _, _, _, _, rfl, hI.s17⟩
        · have hx17 := hI.p17 (hd 17 (by decide))
          subst hx17
          rw [if_pos (by rfl)]
          go_simp
          exact hK.out _ _ ⟨_, _, _, _, _, _, _, _, _, _, _, _, _, _, _, _, _, _, _, _, _, _, _, _, _, _, _, _, _, _, _, _, _, _, _, _, rfl, hI.s18⟩
        · have hx17 := hI.p17 (hd 17 (by decide))
          subst hx17
          rw [if_pos (by rfl)]
          go_simp
          exact hK.out _ _ ⟨_, _, _, _, _, _, _, _, _, _, _, _, _, _, _, _, _, _, _, _, _, _, _, _, _, _, _, _, _, _, _, _, _, _, _, _, rfl, hI.s19⟩
        · have hx18 := hI.p18 (hd 18 (by decide))
          subst hx18
          have hx19 := hI.p19 (hd 19 (by decide))
          subst hx19
          have hx17 := hI.p17 (hd 17 (by decide))
          subst hx17
          rw [if_pos (by rfl)]
          go_simp
          exact hK.out _ _ ⟨_, _, _, _, _, _, _, _, _, _, _, _, _, _, _, _, _, _, _, _, _, _, _, _, _, _, _, _, _, _, _, _, _, _, _, _, rfl, hI.s20⟩
        · have hx20 := hI.p20 (hd 20 (by decide))
          subst hx20
          have hx17 := hI.p17 (hd 17 (by decide))
          subst hx17
          rw [if_pos (by rfl)]
          have hc := CL.out _ hI.x.fb
          go_simp
          exact hK.out _ _ ⟨_, _, _, _, _, _, _, _, _, _, _, _, _, _, _, _, _, _, _, _, _, _, _, _, _, _, _, _, _, _, _, _, _, _, _, _, rfl, hI.s21⟩
        · have hx21 := hI.p21 (hd 21 (by decide))
          subst hx21
          have hx17 := hI.p17 (hd 17 (by decide))
          subst hx17
          rw [if_pos (by rfl)]
          go_simp
          exact hK.out _ _ ⟨_, _, _, _, _, _, _, _, _, _, _, _, _, _, _, _, _, _, _, _, _, _, _, _, _, _, _, _, _, _, _, _, _, _, _, _, rfl, hI.s22⟩
        · have hx22 := hI.p22 (hd 22 (by decide))
          subst hx22
          have hx17 := hI.p17 (hd 17 (by decide))
          subst hx17
          rw [if_pos (by rfl)]
          go_simp
          exact hK.out _ _ ⟨_, _, _, _, _, _, _, _, _, _, _, _, _, _, _, _, _, _, _, _, _, _, _, _, _, _, _, _, _, _, _, _, _, _, _, _, rfl, hI.s23⟩
        · have hx23 := hI.p23 (hd 23 (by decide))
          subst hx23
          have hx17 := hI.p17 (hd 17 (by decide))
          subst hx17
          rw [if_pos (by rfl)]
          have hc := (CG.out _ hI.x.fb).1
          go_simp
          exact hK.out _ _ ⟨_, _, _, _, _, _, _, _, _, _, _, _, _, _, _, _, _, _, _, _, _, _, _, _, _, _, _, _, _, _, _, _, _, _, _, _, rfl, hI.s24⟩
        · have hx24 := hI.p24 (hd 24 (by decide))
          subst hx24
          have hx17 := hI.p17 (hd 17 (by decide))
          subst hx17
          rw [if_pos (by rfl)]
          go_simp
          refine (hI.x.evs HC.out).mono ?_
          rintro e W2 ⟨ao4, c4, rfl, hX⟩
          go_simp
          exact hK.out _ _ ⟨_, _, _, _, _, _, _, _, _, _, _, _, _, _, _, _, _, _, _, _, _, _, _, _, _, _, _, _, _, _, _, _, _, _, _, _, rfl, hI.s25 hX⟩
        · have hx17 := hI.p17 (hd 17 (by decide))
          subst hx17
          rw [if_pos (by rfl)]
          go_simp
          exact hK.out _ _ ⟨_, _, _, _, _, _, _, _, _, _, _, _, _, _, _, _, _, _, _, _, _, _, _, _, _, _, _, _, _, _, _, _, _, _, _, _, rfl, hI.s26⟩
        · have hx17 := hI.p17 (hd 17 (by decide))
          subst hx17
          rw [if_pos (by rfl)]
          go_simp
          exact hK.out _ _ ⟨_, _, _, _, _, _, _, _, _, _, _, _, _, _, _, _, _, _, _, _, _, _, _, _, _, _, _, _, _, _, _, _, _, _, _, _, rfl, hI.s27⟩
        · have hx26 := hI.p26 (hd 26 (by decide))
          subst hx26
          have hx27 := hI.p27 (hd 27 (by decide))
          subst hx27
          have hx17 := hI.p17 (hd 17 (by decide))
          subst hx17
          rw [if_pos (by rfl)]
          go_simp
          exact hK.out _ _ ⟨_, _, _, _, _, _, _, _, _, _, _, _, _, _, _, _, _, _, _, _, _, _, _, _, _, _, _, _, _, _, _, _, _, _, _, _, rfl, hI.s28⟩
        · have hx28 := hI.p28 (hd 28 (by decide))
          subst hx28
          have hx17 := hI.p17 (hd 17 (by decide))
          subst hx17
          rw [if_pos (by rfl)]
          have hc := CL.out _ hI.x.fb
          go_simp
          exact hK.out _ _ ⟨_, _, _, _, _, _, _, _, _, _, _, _, _, _, _, _, _, _, _, _, _, _, _, _, _, _, _, _, _, _, _, _, _, _, _, _, rfl, hI.s29⟩
        · have hx29 := hI.p29 (hd 29 (by decide))
          subst hx29
          have hx17 := hI.p17 (hd 17 (by decide))
          subst hx17
          rw [if_pos (by rfl)]
          go_simp
          exact hK.out _ _ ⟨_, _, _, _, _, _, _, _, _, _, _, _, _, _, _, _, _, _, _, _, _, _, _, _, _, _, _, _, _, _, _, _, _, _, _, _, rfl, hI.s30⟩
        · have hx30 := hI.p30 (hd 30 (by decide))
          subst hx30
          have hx17 := hI.p17 (hd 17 (by decide))
          subst hx17
          rw [if_pos (by rfl)]
          go_simp
          exact hK.out _ _ ⟨_, _, _, _, _, _, _, _, _, _, _, _, _, _, _, _, _, _, _, _, _, _, _, _, _, _, _, _, _, _, _, _, _, _, _, _, rfl, hI.s31⟩
        · have hx31 := hI.p31 (hd 31 (by decide))
          subst hx31
          have hx17 := hI.p17 (hd 17 (by decide))
          subst hx17
          rw [if_pos (by rfl)]
          have hc := (CG.out _ hI.x.fb).2
          go_simp
          exact hK.out _ _ ⟨_, _, _, _, _, _, _, _, _, _, _, _, _, _, _, _, _, _, _, _, _, _, _, _, _, _, _, _, _, _, _, _, _, _, _, _, rfl, hI.s32⟩
        · have hx32 := hI.p32 (hd 32 (by decide))
          subst hx32
          have hx17 := hI.p17 (hd 17 (by decide))
          subst hx17
          rw [if_pos (by rfl)]
          go_simp
          refine (SM.out _ _ _ hI.x (hd 25 (by decide))).mono ?_
          rintro e W2 ⟨rfl, hX⟩
          go_simp
          exact hK.out _ _ ⟨_, _, _, _, _, _, _, _, _, _, _, _, _, _, _, _, _, _, _, _, _, _, _, _, _, _, _, _, _, _, _, _, _, _, _, _, rfl, hI.s33 hX⟩
        · have hx33 := hI.p33 (hd 33 (by decide))
          subst hx33
          have hx17 := hI.p17 (hd 17 (by decide))
          subst hx17
          rw [if_pos (by rfl)]
          go_simp
          exact hK.out _ _ ⟨_, _, _, _, _, _, _, _, _, _, _, _, _, _, _, _, _, _, _, _, _, _, _, _, _, _, _, _, _, _, _, _, _, _, _, _, rfl, hI.s34⟩
        · have hx17 := hI.p17 (hd 17 (by decide))
          subst hx17
          have hx34 := hI.p34 (hd 34 (by decide))
          subst hx34
          rw [if_pos (by rfl)]
          go_simp
          exact hK.out _ _ ⟨_, _, _, _, _, _, _, _, _, _, _, _, _, _, _, _, _, _, _, _, _, _, _, _, _, _, _, _, _, _, _, _, _, _, _, _, rfl, hI.s35⟩
      · refine D21.ends ?_; intro x66 x67 x68 x69 x70 x71 x72 x73 x74 x75 x76 x77 x78 x79 x80 x81 x82 x83 x84 x85 x86 x87 x88 x89 x90 x91 x92 x93 x94 x95 x96 x97 x98 x99 x100 x101 L W hall hI
        have hx0 := hI.p0 (hall 0 (by decide))
        subst hx0
        have hx1 := hI.p1 (hall 1 (by decide))
        subst hx1
        have hx2 := hI.p2 (hall 2 (by decide))
        subst hx2
        have hx3 := hI.p3 (hall 3 (by decide))
        subst hx3
        have hx4 := hI.p4 (hall 4 (by decide))
        subst hx4
        have hx5 := hI.p5 (hall 5 (by decide))
        subst hx5
        have hx6 := hI.p6 (hall 6 (by decide))
        subst hx6
        have hx7 := hI.p7 (hall 7 (by decide))
        subst hx7
        have hx8 := hI.p8 (hall 8 (by decide))
        subst hx8
        have hx9 := hI.p9 (hall 9 (by decide))
        subst hx9
        have hx10 := hI.p10 (hall 10 (by decide))
        subst hx10
        have hx11 := hI.p11 (hall 11 (by decide))
        subst hx11
        have hx12 := hI.p12 (hall 12 (by decide))
        subst hx12
        have hx13 := hI.p13 (hall 13 (by decide))
        subst hx13
        have hx14 := hI.p14 (hall 14 (by decide))
        subst hx14
        have hx15 := hI.p15 (hall 15 (by decide))
        subst hx15
        have hx16 := hI.p16 (hall 16 (by decide))
        subst hx16
        have hx17 := hI.p17 (hall 17 (by decide))
        subst hx17
        have hx18 := hI.p18 (hall 18 (by decide))
        subst hx18
        have hx19 := hI.p19 (hall 19 (by decide))
        subst hx19
        have hx20 := hI.p20 (hall 20 (by decide))
        subst hx20
        have hx21 := hI.p21 (hall 21 (by decide))
        subst hx21
        have hx22 := hI.p22 (hall 22 (by decide))
        subst hx22
        have hx23 := hI.p23 (hall 23 (by decide))
        subst hx23
        have hx24 := hI.p24 (hall 24 (by decide))
        subst hx24
        have hx26 := hI.p26 (hall 26 (by decide))
        subst hx26
        have hx27 := hI.p27 (hall 27 (by decide))
        subst hx27
        have hx28 := hI.p28 (hall 28 (by decide))
        subst hx28
        have hx29 := hI.p29 (hall 29 (by decide))
        subst hx29
        have hx30 := hI.p30 (hall 30 (by decide))
        subst hx30
        have hx31 := hI.p31 (hall 31 (by decide))
        subst hx31
        have hx32 := hI.p32 (hall 32 (by decide))
        subst hx32
        have hx33 := hI.p33 (hall 33 (by decide))
        subst hx33
        have hx34 := hI.p34 (hall 34 (by decide))
        subst hx34
        have hx35 := hI.p35 (hall 35 (by decide))
        subst hx35
        have hXe := hI.x
        rw [hall 25 (by decide)] at hXe
        clear hI hall
        try dsimp only
        have HXE : Hid _ := EN.out _ hXe.fb
        clear hXe
        go_wp2
        exact ⟨⟨kk + 1, by omega, by go_num, HXE.out⟩, by simp [intOf]; omega⟩
    · obtain rfl : kk = m := by omega
      have q1 : ¬ ((kk : Nat) : Int) < (kk : Int) := by omega
      go_wp2_with fail
      refine (FX.out _).mono ?_
      rintro e w9 ⟨rfl, hb9⟩
      dsimp only
      have B9 : Hid (Below w.heap.size w w9) := HB.out.bel.trans (hb9.mono HB.out.bel.size)
      clear hb9
      go_wp2
      go_ret
      exact ⟨rfl, B9.out⟩

set_option maxHeartbeats 4000000 in
set_option maxRecDepth 1000000 in
theorem does_any {Lg : (Nat → Prop) → World → Addr → List EvV → Prop} (C : Chn Lg) (w : World) (so : Option Addr) (n cap : Nat) (hn : n * 104 ≤ 140737488355328) (hso : ∀ j, j < n → ∃ SB off, so = some ⟨SB, off, none⟩ ∧ SB < w.heap.size ∧ OpIn w SB (off + j * 37)) :
    Calls Try.prog 4 #[.slice so n cap] w (KP w) := by
  have HC : Hid (Chn Lg) := C
  have HSO : Hid (∀ j, j < n → ∃ SB off, so = some ⟨SB, off, none⟩ ∧ SB < w.heap.size ∧ OpIn w SB (off + j * 37)) := hso
  have NW := C.new w
  clear C hso
  go_enter Try.func4, Try.ntmps4
  refine wp_seq_k fun K hK => ?_
  have HKK : Hid _ := hK
  clear hK
  go_wp2_with fail
  refine HKK.out _ _ ?_
  clear HKK
  refine wp_seq_k fun K hK => ?_
  have HKK : Hid _ := hK
  clear hK
  go_wp2_with fail
  refine NW.mono ?_
  clear NW
  rintro e w1 ⟨a, S, rfl, hl, hs, hb⟩
  dsimp only
  obtain ⟨W3, hW3⟩ : ∃ W3, W3 = (w1.alloc (.cells #[.pointer (some a), .slice none 0 0] 29)).alloc (.cells #[.pointer (some ⟨w1.heap.size, 0, none⟩)] 24) := ⟨_, rfl⟩
  have hB3 : Below w1.heap.size w1 W3 := by rw [hW3]; exact ((Below.refl _ _).alloc (Nat.le_refl _) _).alloc (by simp) _
  have hk3 : Bk Lg (fun j => S j ∨ j = w1.heap.size) W3 w1.heap.size [] := by
    have h0 := Bk.new HC.out hl
    rw [hW3]
    exact h0.keep HC.out (fun j hj => Below.heap_alloc _ _ j (h0.lt j hj)) (by simp)
  have hr3 : Row W3 (w1.heap.size + 1) 24 [PBk w1.heap.size] := by rw [hW3]; exact Row.at _ _ _ _ _ (by simp) rfl
  have hz3 : W3.heap.size = w1.heap.size + 2 := by rw [hW3]; simp
  have c2 : W3.cell? ⟨w1.heap.size + 1, 0, none⟩ = some (.pointer (some ⟨w1.heap.size, 0, none⟩)) := hr3.cell 0 _ rfl
  have c3 : W3.cell? ⟨w1.heap.size, 0, none⟩ = some (.pointer (some a)) := by
    have : Row W3 w1.heap.size 29 [.pointer (some a), .slice none 0 0] := by rw [hW3]; exact (Row.at w1 _ _ _ _ rfl rfl).alloc _
    exact this.cell 0 _ rfl
  have HB : Hid (BS Lg w (fun j => j = w1.heap.size + 1) W3 (w1.heap.size + 1) 1 [w1.heap.size]) := by
    refine ⟨hb.trans (hB3.mono hb.size), ⟨rfl, .inr ⟨w1.heap.size + 1, 1, #[PBk w1.heap.size], rfl, by have := hb.size; omega, hr3, Nat.le_refl _, by unfold maxLen; omega, rfl, rfl⟩⟩, Nat.succ_pos 0, rfl, fun _ j => S j ∨ j = w1.heap.size, fun i g hi => ?_, fun i j _ hj => ?_, fun i k j hi hk hne => ?_, fun i j _ hj ho => ?_⟩
    · cases i with
      | zero => injection hi with hi; subst hi; exact ⟨[], hk3⟩
      | succ i => simp at hi
    · rcases hj with hj | rfl
      · exact hs j hj
      · exact hb.size
    · simp at hi hk; omega
    · have ho : j = w1.heap.size + 1 := ho
      rcases hj with hj | hj
      · have := HC.out.lt hl j hj; omega
      · omega
  clear hl hs hb hB3 hk3 hr3 hz3
  generalize hG : w1.heap.size = G at *
  go_wp2_with fail
  refine HKK.out _ _ ?_
  clear HKK
  rw [← hW3]
  clear hW3
  refine wp_seq_k fun K hK => ?_
  have HKK : Hid _ := hK
  clear hK
  go_wp2_with fail
  refine HKK.out _ _ ?_
  clear HKK c2 c3
  refine wp_seq_k fun K hK => ?_
  have HKK : Hid _ := hK
  clear hK
  go_wp2_with fail
  go_loopw [3, 4] (fun sv iv wr => ∃ (i lb c : Nat) (gs : List Nat), i ≤ n ∧ gs.length ≤ i + 1 ∧ sv = .slice (some ⟨lb, 0, none⟩) gs.length c ∧ iv = .int .i64 i ∧ Hid (BS Lg w (fun j => j = lb) wr lb c gs)) (fun _ iv _ => n - (intOf iv).toNat)
  case atStart => exact ⟨0, G + 1, 1, [G], by omega, Nat.le_refl _, rfl, rfl, HB.out⟩
  case round =>
    clear HB hG
    obtain ⟨i, lb, c, gs, hi, hgl, rfl, rfl, HB⟩ := hrel
    by_cases hlt : i < n
    · have y0 : (0 : Int) ≤ (i : Int) := by omega
      have y1 : (i : Int) < (n : Int) := by omega
      obtain ⟨SB, off, rfl, hSB, k, on, x, ko, kn, kc, key, no, nb, nc, nonce, hrg, hx, hkn, hki, hkk, hkb, hnb, hni, hnn, hbig⟩ := HSO.out i hlt
      obtain ⟨OC, hOC⟩ : ∃ OC, OC = opC k on x ko kn kc no nb nc := ⟨_, rfl⟩
      have hO0 : OC[0]? = some (.int .i64 k) := by rw [hOC]; rfl
      have hO1 : OC[1]? = some (.int .i64 on) := by rw [hOC]; rfl
      have lO : OC.length = 37 := by rw [hOC]; exact opC_len hx
      have oO : Hid (∀ v ∈ OC, v.oneCell' = true) := by show ∀ v ∈ OC, v.oneCell' = true; rw [hOC]; exact opC_one
      have hpos := HB.out.pos
      have hrw : wr.rangeAt SB (off + i * 37) OC := by
        rw [hOC]
        exact fun j v hj => (World.cell?_of_block (HB.out.bel.block SB hSB)).trans (hrg j v hj)
      have ST : Hid (∀ (W : World) (O g kk : Nat), kk < gs.length → gs[kk]? = some g → BS Lg w (fun j => j = lb ∨ j = O) W lb c gs ∧ Row W O 38 OC → Calls Try.prog 10 #[.pointer (some ⟨g, 0, none⟩), .agg OC.toArray] W fun e w' => e = .returned (.bool true) ∧ BS Lg w (fun j => j = lb ∨ j = O) w' lb c gs ∧ Row w' O 38 OC) := by
        intro W O g kk hkl hg ⟨hbs, hrow⟩
        obtain ⟨g', F, xs, hg', _, hk, hN, hO, hnext⟩ := hbs.at HC.out hkl
        rw [hg] at hg'
        injection hg' with hg'
        subst hg'
        have kp : ∀ W', But F W W' → Below w.heap.size w W' := fun W' hb => hbs.bel.trans (hb.below hbs.bel.size hN)
        rw [hOC]
        refine (step_any HC.out F W g xs hk k on x hx ko kn kc key hkn (fun W' hb => hki.below (kp W' hb) (Nat.le_refl _)) hkk hkb no nb nc nonce hnb (fun W' hb => hni.below (kp W' hb) (Nat.le_refl _)) hnn hbig).mono fun e w' ⟨F', xs', e1, k1, k2, k3⟩ => ⟨e1, hnext F' xs' w' k1 k2 k3 (fun j hj => ?_), ?_⟩
        · rcases hj with rfl | rfl
          · exact hbs.lt
          · exact hrow.lt
        · rw [← hOC]
          exact (k3.block O hrow.lt (hO O (.inr rfl))).trans hrow
      have CE : Hid (∀ (W : World) (O g kk : Nat), kk < gs.length → gs[kk]? = some g → BS Lg w (fun j => j = lb ∨ j = O) W lb c gs → W.cell? ⟨lb, kk, none⟩ = some (.pointer (some ⟨g, 0, none⟩))) := by
        intro W O g kk hkl hg hbs
        obtain ⟨g', F, xs, hg', hc, _⟩ := hbs.at HC.out hkl
        rw [hg] at hg'
        injection hg' with hg'
        subst hg'
        exact hc
      have DR : Hid (∀ (W : World) (O : Nat), BS Lg w (fun j => j = lb ∨ j = O) W lb c gs ∧ Row W O 38 OC → BS Lg w (fun j => j = lb ∨ j = O) W.drew lb c gs ∧ Row W.drew O 38 OC) := fun W O h => ⟨h.1.below HC.out (Below.refl _ _).drew, h.2⟩
      have BK : Hid (∀ (W : World) (O : Nat), BS Lg w (fun j => j = lb ∨ j = O) W lb c gs → BS Lg w (fun j => j = lb) W lb c gs) := fun W O h => h.more rfl fun j hj => .inl (.inl hj)
      have F2 : Hid (∀ w2, Row w2 wr.heap.size 38 OC → Below wr.heap.size wr w2 → BS Lg w (fun j => j = lb ∨ j = wr.heap.size) w2 lb c gs ∧ Row w2 wr.heap.size 38 OC) := fun w2 hr hb => ⟨(HB.out.more (Out' := fun j => j = lb ∨ j = wr.heap.size) (.inl rfl) fun j hj => hj.elim .inl fun h => .inr (by omega)).below HC.out hb, hr⟩
      obtain ⟨m, hm⟩ : ∃ m, m = gs.length := ⟨_, rfl⟩
      rw [← hm] at hpos hgl
      have HM : Hid (gs.length = m) := hm.symm
      clear HB hrg hx hkn hki hkk hkb hnb hni hnn hbig hOC hSB
      rw [← hm]
      clear hm
      have g0 : (0 : Int) < (m : Int) := by omega
      by_cases hk1 : k = 1
      · subst hk1
        clear ST CE DR
        go_wp2_with (first
          | (refine wpList_load_mid rfl 38 (.tmp 28) rfl SB (off + i * 37) rfl OC _ hrw Try.underlying38 rfl (by rw [lO]; kernel_rfl) ?_; clear hrw)
          | (refine wpList_store_Row rfl 38 _ _ rfl wr.heap.size 38 0 zOp OC (Row.at wr _ _ _ _ rfl rfl) (by rw [lO]; decide) rfl rfl (by rw [lO]; kernel_rfl) oO.out ?_; intro w2 hr2 hs2; have r2 := row_whole hr2 (by rw [lO]; decide); have F3 : Hid (BS Lg w (fun j => j = lb ∨ j = wr.heap.size) w2 lb c gs ∧ Row w2 wr.heap.size 38 OC) := F2.out w2 r2 (hs2.below ((Below.refl _ _).alloc (Nat.le_refl _) _) (Nat.le_refl _)); have d0 := r2.cell 0 _ hO0; have d1 := r2.cell 1 _ hO1; clear hr2 hs2 r2))
        clear d0 d1 F2
        have HB2 : Hid (BS Lg w (fun j => j = lb) w2 lb c gs) := BK.out _ _ F3.out.1
        clear F3 BK
        refine (HC.out.new w2).mono ?_
        rintro e w3 ⟨a3, S3, rfl, hl, hs, hb⟩
        dsimp only
        obtain ⟨W5, hW5⟩ : ∃ W5, W5 = (w3.alloc (.cells #[.pointer (some a3), .slice none 0 0] 29)).alloc (.cells #[.pointer (some ⟨w3.heap.size, 0, none⟩)] 24) := ⟨_, rfl⟩
        have hB5 : Below w3.heap.size w3 W5 := by rw [hW5]; exact ((Below.refl _ _).alloc (Nat.le_refl _) _).alloc (by simp) _
        have hk5 : Bk Lg (fun j => S3 j ∨ j = w3.heap.size) W5 w3.heap.size [] := by
          have h0 := Bk.new HC.out hl
          rw [hW5]
          exact h0.keep HC.out (fun j hj => Below.heap_alloc _ _ j (h0.lt j hj)) (by simp)
        have hb5 : Below w2.heap.size w2 W5 := hb.trans (hB5.mono hb.size)
        have hr5 : Row W5 (w3.heap.size + 1) 24 [PBk w3.heap.size] := by rw [hW5]; exact Row.at _ _ _ _ _ (by simp) rfl
        have PUSH : Hid (∀ (ao' : Option Addr) (c' : Nat) (W4 : World), W4.ownsRow w.heap.size 24 1 (.slice ao' (gs.length + 1) c') (gs.length + 1) (gs.map PBk ++ [PBk w3.heap.size]) → Below w.heap.size W5 W4 → W5.heap.size ≤ W4.heap.size → (∀ k, k < W5.heap.size → (∀ G, some (⟨lb, 0, none⟩ : Addr) = some ⟨G, 0, none⟩ → k ≠ G) → W4.heap[k]? = W5.heap[k]?) → (ao' = some ⟨lb, 0, none⟩ ∨ ao' = some ⟨W5.heap.size, 0, none⟩) → ∃ L', ao' = some ⟨L', 0, none⟩ ∧ BS Lg w (fun j => j = L') W4 L' c' (gs ++ [w3.heap.size])) := fun ao' c' W4 h1 h2 h3 h4 h5 =>
          HB2.out.push HC.out hb5 hk5 (fun j hj => hj.elim (hs j) fun h => by rw [h]; exact hb.size) h1 h2 h3 h4 h5
        have ROW5 : Hid (W5.ownsRow w.heap.size 24 1 (.slice (some ⟨lb, 0, none⟩) m c) m (gs.map PBk)) := by
          have := (HB2.out.below HC.out hb5).row
          rw [HM.out] at this
          exact this
        have SZ5 : Hid (w.heap.size ≤ W5.heap.size) := (HB2.out.below HC.out hb5).bel.size
        have HR5 : Hid (Row W5 (w3.heap.size + 1) 24 [PBk w3.heap.size]) := hr5
        clear hl hs hb hB5 hk5 hb5 hr5
        generalize hG3 : w3.heap.size = G3 at *
        have GO : Hid (∀ (ao' : Option Addr) (c' : Nat) (W4 : World), W4.ownsRow w.heap.size 24 1 (.slice ao' (m + 1) c') (m + 1) (gs.map PBk ++ [PBk G3]) → Below w.heap.size W5 W4 → W5.heap.size ≤ W4.heap.size → (∀ k, k < W5.heap.size → (∀ G, some (⟨lb, 0, none⟩ : Addr) = some ⟨G, 0, none⟩ → k ≠ G) → W4.heap[k]? = W5.heap[k]?) → (ao' = some ⟨lb, 0, none⟩ ∨ ao' = some ⟨W5.heap.size, 0, none⟩) → ∃ L', ao' = some ⟨L', 0, none⟩ ∧ BS Lg w (fun j => j = L') W4 L' c' (gs ++ [G3])) := by
          have := PUSH.out
          rw [HM.out] at this
          exact this
        clear PUSH HB2
        go_wp2_with (first | fail | (at_builtin; rw [← hW5]; refine wpList_append_where el_bks rfl (.tmp 36) (.tmp 40) rfl w.heap.size W5 (some ⟨lb, 0, none⟩) m c (gs.map PBk) rfl ROW5.out SZ5.out (Below.refl _ _) (G3 + 1) 0 1 1 [PBk G3] rfl rfl (fun j u hu => by rw [Nat.zero_add]; exact HR5.out.cell j u hu) (by omega) (by intro u hu; rw [List.mem_singleton] at hu; subst hu; rfl) (by unfold maxLen; omega) (by omega) ?_; intro ao2 c2 w4 r1 r2 r3 r4 r5))
        obtain ⟨L', e1, hbs⟩ := GO.out ao2 c2 w4 r1 r2 r3 r4 r5
        subst e1
        exact ⟨⟨i + 1, L', c2, gs ++ [G3], by omega, by rw [List.length_append, HM.out]; simp; omega, by rw [List.length_append, HM.out]; rfl, by go_num, hbs⟩, by simp [intOf]; omega⟩
      have e1 : (k == 1) = false := by simpa using hk1
      obtain ⟨kk, hkl, hr⟩ := rem_at on hpos
      rcases hr with ⟨hr0, hr1⟩ | ⟨hr0, hr1⟩
      · have e2 : decide (on.tmod m < 0) = false := by simpa using hr0
        obtain ⟨PW, hPW⟩ : ∃ PW : World → Prop, PW = fun W => BS Lg w (fun j => j = lb ∨ j = wr.heap.size) W lb c gs ∧ Row W wr.heap.size 38 OC := ⟨_, rfl⟩
        obtain ⟨g, hg⟩ : ∃ g, gs[kk]? = some g := ⟨_, List.getElem?_eq_getElem (by rw [HM.out]; exact hkl)⟩
        have STK : Hid (∀ W, PW W → Calls Try.prog 10 #[.pointer (some ⟨g, 0, none⟩), .agg OC.toArray] W fun e w' => e = .returned (.bool true) ∧ PW w') := by rw [hPW]; exact fun W h => ST.out W _ g kk (by rw [HM.out]; exact hkl) hg h
        have CEK : Hid (∀ W, PW W → W.cell? ⟨lb, kk, none⟩ = some (.pointer (some ⟨g, 0, none⟩))) := by rw [hPW]; exact fun W h => CE.out W _ g kk (by rw [HM.out]; exact hkl) hg h.1
        have DRK : Hid (∀ W, PW W → PW W.drew) := by rw [hPW]; exact fun W h => DR.out W _ h
        have RO : Hid (∀ W, PW W → Row W wr.heap.size 38 OC) := by rw [hPW]; exact fun W h => h.2
        have EN : Hid (∀ W, PW W → BS Lg w (fun j => j = lb) W lb c gs) := by rw [hPW]; exact fun W h => BK.out W _ h.1
        clear ST CE DR BK
        have q1 : (0 : Int) ≤ (kk : Int) := by omega
        have q2 : (kk : Int) < (m : Int) := by omega
        go_wp2_with (first
          | (refine wpList_load_mid rfl 38 (.tmp 28) rfl SB (off + i * 37) rfl OC _ hrw Try.underlying38 rfl (by rw [lO]; kernel_rfl) ?_; clear hrw)
          | (refine wpList_store_Row rfl 38 _ _ rfl wr.heap.size 38 0 zOp OC (Row.at wr _ _ _ _ rfl rfl) (by rw [lO]; decide) rfl rfl (by rw [lO]; kernel_rfl) oO.out ?_; intro w2 hr2 hs2; have r2 := row_whole hr2 (by rw [lO]; decide); have F3 : Hid (BS Lg w (fun j => j = lb ∨ j = wr.heap.size) w2 lb c gs ∧ Row w2 wr.heap.size 38 OC) := F2.out w2 r2 (hs2.below ((Below.refl _ _).alloc (Nat.le_refl _) _) (Nat.le_refl _)); have d0 := r2.cell 0 _ hO0; have d1 := r2.cell 1 _ hO1; clear hr2 hs2 r2))
        have P0 : Hid (PW w2) := by show PW w2; rw [hPW]; exact F3.out
        clear F3 F2 hPW d0 d1
        refine wp_region_inv (ID16 w2 PW lb m c kk g wr.heap.size OC _ _ _ _ _ _ _ _ _ _ _ _ _ _ _ _ _ _ _ _ _ _ _ _ _ _ _ _ _ _ _ _ _ _ _ _ _ _ _ _ _ _ _ _ _ _ _ _ _ _ _ _ _ _ _ _ _ _ _ _ _ _ _ _ _ _ _ _ _ _ _ _ _ _ _ _ _ _ _ _ _ _ _ _ _ _ _ _ _ _ _ _ _ _ _ _) (by kernel_rfl) (by kernel_rfl) ⟨_, _, _, _, _, _, _, rfl, ⟨DRK.out _ P0.out, fun k => (by cases k), fun k => (by cases k), fun k => (by cases k), fun k => (by cases k), fun k => (by cases k), fun k => (by cases k), fun k => (by cases k)⟩⟩ ?_ ?_
        · refine .cons ?_ (.cons ?_ (.cons ?_ (.cons ?_ (.cons ?_ (.cons ?_ (.cons ?_ .nil))))))
          all_goals (refine D16.step ?_; intro x53 x54 x55 x56 x57 x58 x59 L W hI hL hd K hK)
          · rw [if_pos (by rfl)]
            go_simp
            exact hK.out _ _ ⟨_, _, _, _, _, _, _, rfl, hI.s0⟩
          · rw [if_pos (by rfl)]
            go_simp
            exact hK.out _ _ ⟨_, _, _, _, _, _, _, rfl, hI.s1⟩
          · have hx0 := hI.p0 (hd 0 (by decide))
            subst hx0
            have hx1 := hI.p1 (hd 1 (by decide))
            subst hx1
            rw [if_pos (by rfl)]
            go_simp
            exact hK.out _ _ ⟨_, _, _, _, _, _, _, rfl, hI.s2⟩
          · have hx2 := hI.p2 (hd 2 (by decide))
            subst hx2
            rw [if_pos (by rfl)]
            have hc := CEK.out _ hI.x
            go_simp
            exact hK.out _ _ ⟨_, _, _, _, _, _, _, rfl, hI.s3⟩
          · refine step_load_Row rfl 38 _ rfl wr.heap.size 38 OC (RO.out _ hI.x) rfl _ Try.underlying38 rfl (by rw [lO]; kernel_rfl) ?_
            exact hK.out _ _ ⟨_, _, _, _, _, _, _, rfl, hI.s4⟩
          · have hx3 := hI.p3 (hd 3 (by decide))
            subst hx3
            have hx4 := hI.p4 (hd 4 (by decide))
            subst hx4
            rw [if_pos (by rfl)]
            go_simp
            refine (STK.out _ hI.x).mono ?_
            rintro e W2 ⟨rfl, hX⟩
            go_simp
            exact hK.out _ _ ⟨_, _, _, _, _, _, _, rfl, hI.s5 hX⟩
          · have hx5 := hI.p5 (hd 5 (by decide))
            subst hx5
            rw [if_pos (by rfl)]
            go_simp
            exact hK.out _ _ ⟨_, _, _, _, _, _, _, rfl, hI.s6⟩
        · refine D16.ends ?_; intro x53 x54 x55 x56 x57 x58 x59 L W hall hI
          have hx0 := hI.p0 (hall 0 (by decide))
          subst hx0
          have hx1 := hI.p1 (hall 1 (by decide))
          subst hx1
          have hx2 := hI.p2 (hall 2 (by decide))
          subst hx2
          have hx3 := hI.p3 (hall 3 (by decide))
          subst hx3
          have hx4 := hI.p4 (hall 4 (by decide))
          subst hx4
          have hx5 := hI.p5 (hall 5 (by decide))
          subst hx5
          have hx6 := hI.p6 (hall 6 (by decide))
          subst hx6
          have hXe := hI.x
          clear hI hall
          try dsimp only
          have HXE : Hid _ := EN.out _ hXe
          clear hXe
          go_wp2
          exact ⟨⟨i + 1, lb, c, gs, by omega, by rw [HM.out]; omega, by rw [HM.out], by go_num, HXE.out⟩, by simp [intOf]; omega⟩
      · have e2 : decide (on.tmod m < 0) = true := by simpa using hr0
        obtain ⟨PW, hPW⟩ : ∃ PW : World → Prop, PW = fun W => BS Lg w (fun j => j = lb ∨ j = wr.heap.size) W lb c gs ∧ Row W wr.heap.size 38 OC := ⟨_, rfl⟩
        obtain ⟨g, hg⟩ : ∃ g, gs[kk]? = some g := ⟨_, List.getElem?_eq_getElem (by rw [HM.out]; exact hkl)⟩
        have STK : Hid (∀ W, PW W → Calls Try.prog 10 #[.pointer (some ⟨g, 0, none⟩), .agg OC.toArray] W fun e w' => e = .returned (.bool true) ∧ PW w') := by rw [hPW]; exact fun W h => ST.out W _ g kk (by rw [HM.out]; exact hkl) hg h
        have CEK : Hid (∀ W, PW W → W.cell? ⟨lb, kk, none⟩ = some (.pointer (some ⟨g, 0, none⟩))) := by rw [hPW]; exact fun W h => CE.out W _ g kk (by rw [HM.out]; exact hkl) hg h.1
        have DRK : Hid (∀ W, PW W → PW W.drew) := by rw [hPW]; exact fun W h => DR.out W _ h
        have RO : Hid (∀ W, PW W → Row W wr.heap.size 38 OC) := by rw [hPW]; exact fun W h => h.2
        have EN : Hid (∀ W, PW W → BS Lg w (fun j => j = lb) W lb c gs) := by rw [hPW]; exact fun W h => BK.out W _ h.1
        clear ST CE DR BK
        have q1 : (0 : Int) ≤ (kk : Int) := by omega
        have q2 : (kk : Int) < (m : Int) := by omega
        go_wp2_with (first
          | (refine wpList_load_mid rfl 38 (.tmp 28) rfl SB (off + i * 37) rfl OC _ hrw Try.underlying38 rfl (by rw [lO]; kernel_rfl) ?_; clear hrw)
          | (refine wpList_store_Row rfl 38 _ _ rfl wr.heap.size 38 0 zOp OC (Row.at wr _ _ _ _ rfl rfl) (by rw [lO]; decide) rfl rfl (by rw [lO]; kernel_rfl) oO.out ?_; intro w2 hr2 hs2; have r2 := row_whole hr2 (by rw [lO]; decide); have F3 : Hid (BS Lg w (fun j => j = lb ∨ j = wr.heap.size) w2 lb c gs ∧ Row w2 wr.heap.size 38 OC) := F2.out w2 r2 (hs2.below ((Below.refl _ _).alloc (Nat.le_refl _) _) (Nat.le_refl _)); have d0 := r2.cell 0 _ hO0; have d1 := r2.cell 1 _ hO1; clear hr2 hs2 r2))
        have P0 : Hid (PW w2) := by show PW w2; rw [hPW]; exact F3.out
        clear F3 F2 hPW d0 d1
        refine wp_region_inv (ID16 w2 PW lb m c kk g wr.heap.size OC _ _ _ _ _ _ _ _ _ _ _ _ _ _ _ _ _ _ _ _ _ _ _ _ _ _ _ _ _ _ _ _ _ _ _ _ _ _ _ _ _ _ _ _ _ _ _ _ _ _ _ _ _ _ _ _ _ _ _ _ _ _ _ _ _ _ _ _ _ _ _ _ _ _ _ _ _ _ _ _ _ _ _ _ _ _ _ _ _ _ _ _ _ _ _ _) (by kernel_rfl) (by kernel_rfl) ⟨_, _, _, _, _, _, _, rfl, ⟨DRK.out _ P0.out, fun k => (by cases k), fun k => (by cases k), fun k => (by cases k), fun k => (by cases k), fun k => (by cases k), fun k => (by cases k), fun k => (by cases k)⟩⟩ ?_ ?_
        · refine .cons ?_ (.cons ?_ (.cons ?_ (.cons ?_ (.cons ?_ (.cons ?_ (.cons ?_ .nil))))))
          all_goals (refine D16.step ?_; intro x53 x54 x55 x56 x57 x58 x59 L W hI hL hd K hK)
          · rw [if_pos (by rfl)]
            go_simp
            exact hK.out _ _ ⟨_, _, _, _, _, _, _, rfl, hI.s0⟩
          · rw [if_pos (by rfl)]
            go_simp
            exact hK.out _ _ ⟨_, _, _, _, _, _, _, rfl, hI.s1⟩
          · have hx0 := hI.p0 (hd 0 (by decide))
            subst hx0
            have hx1 := hI.p1 (hd 1 (by decide))
            subst hx1
            rw [if_pos (by rfl)]
            go_simp
            exact hK.out _ _ ⟨_, _, _, _, _, _, _, rfl, hI.s2⟩
          · have hx2 := hI.p2 (hd 2 (by decide))
            subst hx2
            rw [if_pos (by rfl)]
            have hc := CEK.out _ hI.x
            go_simp
            exact hK.out _ _ ⟨_, _, _, _, _, _, _, rfl, hI.s3⟩
          · refine step_load_Row rfl 38 _ rfl wr.heap.size 38 OC (RO.out _ hI.x) rfl _ Try.underlying38 rfl (by rw [lO]; kernel_rfl) ?_
            exact hK.out _ _ ⟨_, _, _, _, _, _, _, rfl, hI.s4⟩
          · have hx3 := hI.p3 (hd 3 (by decide))
            subst hx3
            have hx4 := hI.p4 (hd 4 (by decide))
            subst hx4
            rw [if_pos (by rfl)]
            go_simp
            refine (STK.out _ hI.x).mono ?_
            rintro e W2 ⟨rfl, hX⟩
            go_simp
            exact hK.out _ _ ⟨_, _, _, _, _, _, _, rfl, hI.s5 hX⟩
          · have hx5 := hI.p5 (hd 5 (by decide))
            subst hx5
            rw [if_pos (by rfl)]
            go_simp
            exact hK.out _ _ ⟨_, _, _, _, _, _, _, rfl, hI.s6⟩
        · refine D16.ends ?_; intro x53 x54 x55 x56 x57 x58 x59 L W hall hI
          have hx0 := hI.p0 (hall 0 (by decide))
          subst hx0
          have hx1 := hI.p1 (hall 1 (by decide))
          subst hx1
          have hx2 := hI.p2 (hall 2 (by decide))
          subst hx2
          have hx3 := hI.p3 (hall 3 (by decide))
          subst hx3
          have hx4 := hI.p4 (hall 4 (by decide))
          subst hx4
          have hx5 := hI.p5 (hall 5 (by decide))
          subst hx5
          have hx6 := hI.p6 (hall 6 (by decide))
          subst hx6
          have hXe := hI.x
          clear hI hall
          try dsimp only
          have HXE : Hid _ := EN.out _ hXe
          clear hXe
          go_wp2
          exact ⟨⟨i + 1, lb, c, gs, by omega, by rw [HM.out]; omega, by rw [HM.out], by go_num, HXE.out⟩, by simp [intOf]; omega⟩
    · obtain rfl : i = n := by omega
      have y1 : ¬ ((i : Nat) : Int) < (i : Int) := by omega
      go_wp2
      refine HKK.out _ _ ?_
      exact does4 HC.out w wr lb c gs HB.out (by omega) _ _ _ _ _ _ _ _ _ _ _ _ _ _ _ _ _ _ _ _ _ _ _ _ _ _ _ _ _ _ _ _ _ _ _ _ _ _ _ _ _ _ _ _ _ _ _ _ _ _ _ _ _ _ _ _ _ _ _ _ _ _ _ _ _ _ _ _ _ _ _ _ _ _ _ _ _ _ _ _ _ _ _ _ _ _ _ _ _ _ _ _ _ _ _ _ _ _ _ _ _ _
end Go.Proofs.Ythegfkcegmeklaa
