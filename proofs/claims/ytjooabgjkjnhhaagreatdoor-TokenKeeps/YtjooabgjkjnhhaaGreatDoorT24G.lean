
import Derived.Test.YtjooabgjkjnhhaaGreatDoorI11Inv
/-! The reference's token: Get. (Printed by tools/gent24b.py.) -/
namespace Go.Proofs.YtjooabgjkjnhhaaGreatDoor
open Go.RowKit
set_option linter.unusedVariables false
set_option linter.unusedSimpArgs false
structure GG19 (W1 : World) (B off n cap p k0 k1 X2 X10 X18 : Nat) (Y2 Y10 : Int) (L : Nat → Bool) (x74 x75 x76 x77 x78 x79 x80 x81 x82 x83 x84 x85 x86 x87 x88 x89 x90 x91 x92 x93 x94 x95 x96 x97 x98 x99 x100 x101 x102 x9 : Value) (W : World) : Prop where
  x : G9 W1 [.int .i64 (k0 : Int), .int .i64 (k1 : Int), .int .i64 Y2, .int .i64 Y10, .int .u64 (X18 : Int)] (L 29) (L 30) W
  p0 : L 0 = true → x74 = .slice (some ⟨B, off, none⟩) n cap
  p1 : L 1 = true → x75 = .int .i64 (p : Int)
  p2 : L 2 = true → x76 = .pointer (some ⟨B, off + p, none⟩)
  p3 : L 3 = true → x77 = .int .u8 (k0 : Int)
  p4 : L 4 = true → x78 = .int .i64 (k0 : Int)
  p5 : L 5 = true → x79 = .slice (some ⟨B, off, none⟩) n cap
  p6 : L 6 = true → x80 = .int .i64 (p : Int)
  p7 : L 7 = true → x81 = .int .i64 ((p : Int) + 1)
  p8 : L 8 = true → x82 = .pointer (some ⟨B, off + (p + 1), none⟩)
  p9 : L 9 = true → x83 = .int .u8 (k1 : Int)
  p10 : L 10 = true → x84 = .int .i64 (k1 : Int)
  p11 : L 11 = true → x85 = .slice (some ⟨B, off, none⟩) n cap
  p12 : L 12 = true → x86 = .int .i64 (p : Int)
  p13 : L 13 = true → x87 = .int .i64 ((p : Int) + 2)
  p14 : L 14 = true → x88 = .slice (some ⟨B, off + (p + 2), none⟩) (n - (p + 2)) (cap - (p + 2))
  p15 : L 15 = true → x89 = .int .u64 (X2 : Int)
  p16 : L 16 = true → x90 = .int .i64 Y2
  p17 : L 17 = true → x91 = .slice (some ⟨B, off, none⟩) n cap
  p18 : L 18 = true → x92 = .int .i64 (p : Int)
  p19 : L 19 = true → x93 = .int .i64 ((p : Int) + 10)
  p20 : L 20 = true → x94 = .slice (some ⟨B, off + (p + 10), none⟩) (n - (p + 10)) (cap - (p + 10))
  p21 : L 21 = true → x95 = .int .u64 (X10 : Int)
  p22 : L 22 = true → x96 = .int .i64 Y10
  p23 : L 23 = true → x97 = .slice (some ⟨B, off, none⟩) n cap
  p24 : L 24 = true → x98 = .int .i64 (p : Int)
  p25 : L 25 = true → x99 = .int .i64 ((p : Int) + 18)
  p26 : L 26 = true → x100 = .slice (some ⟨B, off + (p + 18), none⟩) (n - (p + 18)) (cap - (p + 18))
  p27 : L 27 = true → x101 = .int .u64 (X18 : Int)
  p28 : L 28 = true → x102 = .agg #[.int .i64 (k0 : Int), .int .i64 (k1 : Int), .int .i64 Y2, .int .i64 Y10, .int .u64 (X18 : Int)]
  p29 : L 29 = true → x9 = .pointer (some ⟨W1.heap.size, 0, none⟩)
  c30_29 : L 30 = true → L 29 = true
section
variable {W1 : World} {B off n cap p k0 k1 X2 X10 X18 : Nat} {Y2 Y10 : Int} {L : Nat → Bool} {x74 x75 x76 x77 x78 x79 x80 x81 x82 x83 x84 x85 x86 x87 x88 x89 x90 x91 x92 x93 x94 x95 x96 x97 x98 x99 x100 x101 x102 x9 : Value} {W W2 : World}
theorem GG19.s0 (h : GG19 W1 B off n cap p k0 k1 X2 X10 X18 Y2 Y10 L x74 x75 x76 x77 x78 x79 x80 x81 x82 x83 x84 x85 x86 x87 x88 x89 x90 x91 x92 x93 x94 x95 x96 x97 x98 x99 x100 x101 x102 x9 W) : GG19 W1 B off n cap p k0 k1 X2 X10 X18 Y2 Y10 (upd L 0) (.slice (some ⟨B, off, none⟩) n cap) x75 x76 x77 x78 x79 x80 x81 x82 x83 x84 x85 x86 x87 x88 x89 x90 x91 x92 x93 x94 x95 x96 x97 x98 x99 x100 x101 x102 x9 W :=
  ⟨h.x, fun _ => rfl, h.p1, h.p2, h.p3, h.p4, h.p5, h.p6, h.p7, h.p8, h.p9, h.p10, h.p11, h.p12, h.p13, h.p14, h.p15, h.p16, h.p17, h.p18, h.p19, h.p20, h.p21, h.p22, h.p23, h.p24, h.p25, h.p26, h.p27, h.p28, h.p29, h.c30_29⟩
theorem GG19.s1 (h : GG19 W1 B off n cap p k0 k1 X2 X10 X18 Y2 Y10 L x74 x75 x76 x77 x78 x79 x80 x81 x82 x83 x84 x85 x86 x87 x88 x89 x90 x91 x92 x93 x94 x95 x96 x97 x98 x99 x100 x101 x102 x9 W) : GG19 W1 B off n cap p k0 k1 X2 X10 X18 Y2 Y10 (upd L 1) x74 (.int .i64 (p : Int)) x76 x77 x78 x79 x80 x81 x82 x83 x84 x85 x86 x87 x88 x89 x90 x91 x92 x93 x94 x95 x96 x97 x98 x99 x100 x101 x102 x9 W :=
  ⟨h.x, h.p0, fun _ => rfl, h.p2, h.p3, h.p4, h.p5, h.p6, h.p7, h.p8, h.p9, h.p10, h.p11, h.p12, h.p13, h.p14, h.p15, h.p16, h.p17, h.p18, h.p19, h.p20, h.p21, h.p22, h.p23, h.p24, h.p25, h.p26, h.p27, h.p28, h.p29, h.c30_29⟩
end
@[reducible] def IGG19 (W1 : World) (B off n cap p k0 k1 X2 X10 X18 : Nat) (Y2 Y10 : Int) (y0 y1 y2 y3 y4 y5 y6 y7 y8 y10 y11 y12 y13 y14 y15 y16 y17 y18 y19 y20 y21 y22 y23 y24 y25 y26 y27 y28 y29 y30 y31 y32 y33 y34 y35 y36 y37 y38 y39 y40 y41 y42 y43 y44 y45 y46 y47 y48 y49 y50 y51 y52 y53 y54 y55 y56 y57 y58 y59 y60 y61 y62 y63 y64 y65 y66 y67 y68 y69 y70 y71 y72 y73 y103 y104 y105 y106 y107 y108 y109 y110 y111 y112 y113 y114 y115 y116 y117 y118 y119 y120 y121 y122 y123 y124 y125 y126 y127 y128 y129 y130 y131 y132 y133 y134 y135 y136 y137 y138 y139 y140 y141 y142 y143 y144 y145 y146 y147 y148 y149 : Value) : (Nat → Bool) → Act → World → Prop := fun L a W => ∃ x74 x75 x76 x77 x78 x79 x80 x81 x82 x83 x84 x85 x86 x87 x88 x89 x90 x91 x92 x93 x94 x95 x96 x97 x98 x99 x100 x101 x102 x9, a = ⟨#[y0, y1, y2, y3, y4, y5, y6, y7, y8, x9, y10, y11, y12, y13, y14, y15, y16, y17, y18, y19, y20, y21, y22, y23, y24, y25, y26, y27, y28, y29, y30, y31, y32, y33, y34, y35, y36, y37, y38, y39, y40, y41, y42, y43, y44, y45, y46, y47, y48, y49, y50, y51, y52, y53, y54, y55, y56, y57, y58, y59, y60, y61, y62, y63, y64, y65, y66, y67, y68, y69, y70, y71, y72, y73, x74, x75, x76, x77, x78, x79, x80, x81, x82, x83, x84, x85, x86, x87, x88, x89, x90, x91, x92, x93, x94, x95, x96, x97, x98, x99, x100, x101, x102, y103, y104, y105, y106, y107, y108, y109, y110, y111, y112, y113, y114, y115, y116, y117, y118, y119, y120, y121, y122, y123, y124, y125, y126, y127, y128, y129, y130, y131, y132, y133, y134, y135, y136, y137, y138, y139, y140, y141, y142, y143, y144, y145, y146, y147, y148, y149], []⟩ ∧ GG19 W1 B off n cap p k0 k1 X2 X10 X18 Y2 Y10 L x74 x75 x76 x77 x78 x79 x80 x81 x82 x83 x84 x85 x86 x87 x88 x89 x90 x91 x92 x93 x94 x95 x96 x97 x98 x99 x100 x101 x102 x9 W
theorem GG19.step {W1 : World} {B off n cap p k0 k1 X2 X10 X18 : Nat} {Y2 Y10 : Int} {y0 y1 y2 y3 y4 y5 y6 y7 y8 y10 y11 y12 y13 y14 y15 y16 y17 y18 y19 y20 y21 y22 y23 y24 y25 y26 y27 y28 y29 y30 y31 y32 y33 y34 y35 y36 y37 y38 y39 y40 y41 y42 y43 y44 y45 y46 y47 y48 y49 y50 y51 y52 y53 y54 y55 y56 y57 y58 y59 y60 y61 y62 y63 y64 y65 y66 y67 y68 y69 y70 y71 y72 y73 y103 y104 y105 y106 y107 y108 y109 y110 y111 y112 y113 y114 y115 y116 y117 y118 y119 y120 y121 y122 y123 y124 y125 y126 y127 y128 y129 y130 y131 y132 y133 y134 y135 y136 y137 y138 y139 y140 y141 y142 y143 y144 y145 y146 y147 y148 y149 : Value} {P : Program} {ops : Array Oper} {Q : Exit → Act → World → Prop} {i : Nat} {o : Oper} (hq : ∀ x74 x75 x76 x77 x78 x79 x80 x81 x82 x83 x84 x85 x86 x87 x88 x89 x90 x91 x92 x93 x94 x95 x96 x97 x98 x99 x100 x101 x102 x9 (L : Nat → Bool) (W : World), GG19 W1 B off n cap p k0 k1 X2 X10 X18 Y2 Y10 L x74 x75 x76 x77 x78 x79 x80 x81 x82 x83 x84 x85 x86 x87 x88 x89 x90 x91 x92 x93 x94 x95 x96 x97 x98 x99 x100 x101 x102 x9 W → L i = false → (∀ j ∈ onesOf o, L j = true) → ∀ K : Act → World → Prop, Shut (∀ a' w', IGG19 W1 B off n cap p k0 k1 X2 X10 X18 Y2 Y10 y0 y1 y2 y3 y4 y5 y6 y7 y8 y10 y11 y12 y13 y14 y15 y16 y17 y18 y19 y20 y21 y22 y23 y24 y25 y26 y27 y28 y29 y30 y31 y32 y33 y34 y35 y36 y37 y38 y39 y40 y41 y42 y43 y44 y45 y46 y47 y48 y49 y50 y51 y52 y53 y54 y55 y56 y57 y58 y59 y60 y61 y62 y63 y64 y65 y66 y67 y68 y69 y70 y71 y72 y73 y103 y104 y105 y106 y107 y108 y109 y110 y111 y112 y113 y114 y115 y116 y117 y118 y119 y120 y121 y122 y123 y124 y125 y126 y127 y128 y129 y130 y131 y132 y133 y134 y135 y136 y137 y138 y139 y140 y141 y142 y143 y144 y145 y146 y147 y148 y149 (upd L i) a' w' → K a' w') → if Region.wanted o (yielded ops (⟨#[y0, y1, y2, y3, y4, y5, y6, y7, y8, x9, y10, y11, y12, y13, y14, y15, y16, y17, y18, y19, y20, y21, y22, y23, y24, y25, y26, y27, y28, y29, y30, y31, y32, y33, y34, y35, y36, y37, y38, y39, y40, y41, y42, y43, y44, y45, y46, y47, y48, y49, y50, y51, y52, y53, y54, y55, y56, y57, y58, y59, y60, y61, y62, y63, y64, y65, y66, y67, y68, y69, y70, y71, y72, y73, x74, x75, x76, x77, x78, x79, x80, x81, x82, x83, x84, x85, x86, x87, x88, x89, x90, x91, x92, x93, x94, x95, x96, x97, x98, x99, x100, x101, x102, y103, y104, y105, y106, y107, y108, y109, y110, y111, y112, y113, y114, y115, y116, y117, y118, y119, y120, y121, y122, y123, y124, y125, y126, y127, y128, y129, y130, y131, y132, y133, y134, y135, y136, y137, y138, y139, y140, y141, y142, y143, y144, y145, y146, y147, y148, y149], []⟩ : Act).tmps) = true then Oper.wp P o ⟨#[y0, y1, y2, y3, y4, y5, y6, y7, y8, x9, y10, y11, y12, y13, y14, y15, y16, y17, y18, y19, y20, y21, y22, y23, y24, y25, y26, y27, y28, y29, y30, y31, y32, y33, y34, y35, y36, y37, y38, y39, y40, y41, y42, y43, y44, y45, y46, y47, y48, y49, y50, y51, y52, y53, y54, y55, y56, y57, y58, y59, y60, y61, y62, y63, y64, y65, y66, y67, y68, y69, y70, y71, y72, y73, x74, x75, x76, x77, x78, x79, x80, x81, x82, x83, x84, x85, x86, x87, x88, x89, x90, x91, x92, x93, x94, x95, x96, x97, x98, x99, x100, x101, x102, y103, y104, y105, y106, y107, y108, y109, y110, y111, y112, y113, y114, y115, y116, y117, y118, y119, y120, y121, y122, y123, y124, y125, y126, y127, y128, y129, y130, y131, y132, y133, y134, y135, y136, y137, y138, y139, y140, y141, y142, y143, y144, y145, y146, y147, y148, y149], []⟩ W K Q else K ((⟨#[y0, y1, y2, y3, y4, y5, y6, y7, y8, x9, y10, y11, y12, y13, y14, y15, y16, y17, y18, y19, y20, y21, y22, y23, y24, y25, y26, y27, y28, y29, y30, y31, y32, y33, y34, y35, y36, y37, y38, y39, y40, y41, y42, y43, y44, y45, y46, y47, y48, y49, y50, y51, y52, y53, y54, y55, y56, y57, y58, y59, y60, y61, y62, y63, y64, y65, y66, y67, y68, y69, y70, y71, y72, y73, x74, x75, x76, x77, x78, x79, x80, x81, x82, x83, x84, x85, x86, x87, x88, x89, x90, x91, x92, x93, x94, x95, x96, x97, x98, x99, x100, x101, x102, y103, y104, y105, y106, y107, y108, y109, y110, y111, y112, y113, y114, y115, y116, y117, y118, y119, y120, y121, y122, y123, y124, y125, y126, y127, y128, y129, y130, y131, y132, y133, y134, y135, y136, y137, y138, y139, y140, y141, y142, y143, y144, y145, y146, y147, y148, y149], []⟩ : Act).put o.dst undef) W) : StepI P ops (IGG19 W1 B off n cap p k0 k1 X2 X10 X18 Y2 Y10 y0 y1 y2 y3 y4 y5 y6 y7 y8 y10 y11 y12 y13 y14 y15 y16 y17 y18 y19 y20 y21 y22 y23 y24 y25 y26 y27 y28 y29 y30 y31 y32 y33 y34 y35 y36 y37 y38 y39 y40 y41 y42 y43 y44 y45 y46 y47 y48 y49 y50 y51 y52 y53 y54 y55 y56 y57 y58 y59 y60 y61 y62 y63 y64 y65 y66 y67 y68 y69 y70 y71 y72 y73 y103 y104 y105 y106 y107 y108 y109 y110 y111 y112 y113 y114 y115 y116 y117 y118 y119 y120 y121 y122 y123 y124 y125 y126 y127 y128 y129 y130 y131 y132 y133 y134 y135 y136 y137 y138 y139 y140 y141 y142 y143 y144 y145 y146 y147 y148 y149) Q i o := by
  rintro L a W ⟨x74, x75, x76, x77, x78, x79, x80, x81, x82, x83, x84, x85, x86, x87, x88, x89, x90, x91, x92, x93, x94, x95, x96, x97, x98, x99, x100, x101, x102, x9, rfl, h⟩
  exact hq _ _ _ _ _ _ _ _ _ _ _ _ _ _ _ _ _ _ _ _ _ _ _ _ _ _ _ _ _ _ _ _ h
def dropS : Nat → Code → Code
  | 0, c => c
  | n + 1, .seq _ b => dropS n b
  | _ + 1, c => c
theorem i64N_wrap (n : Nat) (h : n < 18446744073709551616) : IntKind.i64.wrap (n : Int) = i64N n := by
  simp only [IntKind.wrap, IntKind.bits, IntKind.signed, i64N]
  simp
  split <;> omega
theorem getD_drop24 (b : List By) (p j : Nat) : (b.drop p).getD j 0 = b.getD (p + j) 0 := by simp [List.getD]
theorem cvAt_ok (b : List By) : (cvAt b).ok := by
  have h0 := (b.getD 0 0).isLt
  have h1 := (b.getD 1 0).isLt
  have h2 := num8_lt (b.drop 2)
  have h3 := num8_lt (b.drop 10)
  have h4 := num8_lt (b.drop 18)
  unfold cvAt Cv.ok i64N
  dsimp only
  refine ⟨by omega, by omega, ?_, ?_, h4⟩
  · split <;> omega
  · split <;> omega
theorem wpList_at24 {P : Program} {ops : Array Oper} {Q : Exit → Act → World → Prop} {rest : List Oper} {a : Act} {w w' : World} (h : w' = w) (hh : wpList P ops Q rest a w') : wpList P ops Q rest a w := h ▸ hh
theorem wp_at24 {P : Program} {c : Code} {Q : Exit → Act → World → Prop} {a : Act} {w w' : World} (h : w' = w) (hh : Code.wp P c Q a w') : Code.wp P c Q a w := h ▸ hh
/-- What is left of the caveats. -/
def csT (b : List By) (p m : Nat) (LC : List Cv) (M : Nat) (p0 : Nat) : Prop := csR b p0 M = match csR b p m with | .error x => .error x | .ok l => .ok (LC ++ l)
theorem csT_bad {b : List By} {p m : Nat} {LC : List Cv} {M p0 : Nat} {x : Nat × Nat} (h : csT b p m LC M p0) (hx : csR b p m = .error x) : csR b p0 M = .error x := by
  unfold csT at h; rw [hx] at h; exact h
theorem csT_next {b : List By} {p m : Nat} {LC : List Cv} {M p0 : Nat} (h : csT b p (m + 1) LC M p0) (h1 : ¬ b.length < p + 26) (h2 : cvMay (cvAt (b.drop p)) = true) : csT b (p + 26) m (LC ++ [cvAt (b.drop p)]) M p0 := by
  unfold csT at h ⊢
  rw [h, csR, if_neg h1, if_pos h2]
  split
  · rename_i x hx
    split at hx
    · rename_i y hy; rw [hy]; injection hx with hx; rw [hx]
    · cases hx
  · rename_i l hx
    split at hx
    · cases hx
    · rename_i l' hl'; rw [hl']; injection hx with hx; rw [← hx]; simp
theorem csT_done {b : List By} {p : Nat} {LC : List Cv} {M p0 : Nat} (h : csT b p 0 LC M p0) : csR b p0 M = .ok LC := by
  unfold csT at h; rw [h, csR]; simp

theorem scan24_at {b : List By} {n q : Nat} (hn : b.length = n) (h8 : q < 8) (hs : scan24 b 0 8 = scan24 b q (8 - q)) : (q = n → getR b = .error (6, q)) ∧ (q ≠ n → ∀ v, v = hd24 q (b.getD q 0).toNat → (v = false → getR b = .error (5, q)) ∧ (v = true → scan24 b 0 8 = scan24 b (q + 1) (8 - (q + 1)))) := by
  obtain ⟨m, hm⟩ : ∃ m, 8 - q = m + 1 := ⟨7 - q, by omega⟩
  have e : scan24 b q (m + 1) = if q = b.length then some (6, q) else if hd24 q (b.getD q 0).toNat then scan24 b (q + 1) m else some (5, q) := rfl
  rw [hm, e, hn] at hs
  refine ⟨fun h => ?_, fun h v hv => ⟨fun ev => ?_, fun ev => ?_⟩⟩
  · rw [if_pos h] at hs
    unfold getR
    rw [hs]
  · rw [if_neg h, ← hv, ev, if_neg (by simp)] at hs
    unfold getR
    rw [hs]
  · rw [if_neg h, ← hv, ev, if_pos rfl] at hs
    rw [hs, show m = 8 - (q + 1) by omega]
/-- The token's own box, and its ID. -/
theorem GW.first {w : World} {b : List By} {g : Nat} {k : Int} {id : List By} {io : Option Addr} {ic : Nat} {W : World} (h : GP w W) (hg : w.heap.size + 2 ≤ g) (ht : Row W g 28 (tkK k)) (ho : Own (w.heap.size + 2) W (.slice io id.length ic) id) :
    GW w b g k id io ic [] none 0 (List.replicate 32 0) (W.setCell ⟨g, 1, none⟩ (.slice io id.length ic)) := by
  have hs := SameBut.setCell g 1 (.slice io id.length ic) W
  exact ⟨h.but hs hg, hg, ht.set 1 _, own_butr ho hs ht (by decide), World.ownsRow_nil _ _ _ _, fun c hc => by cases hc⟩
theorem set_mid (l : List By) (p j : Nat) (x : By) (hx : (l.drop p)[j]? = some x) (hj : j < 32) : ((l.drop p).take j ++ List.replicate (32 - j) (0 : By)).set j x = (l.drop p).take (j + 1) ++ List.replicate (32 - (j + 1)) 0 := by
  have hl : ((l.drop p).take j).length = j := by
    rw [List.length_take]
    have := (List.getElem?_eq_some_iff.1 hx).1
    omega
  rw [List.set_append_right _ _ (by omega), hl, Nat.sub_self, List.take_add_one, hx]
  obtain ⟨m, hm⟩ : ∃ m, 32 - j = m + 1 := ⟨31 - j, by omega⟩
  rw [hm, show 32 - (j + 1) = m by omega, List.replicate_succ]
  simp

/-- The bytes that were handed in. -/
structure BI (w : World) (B off n cap : Nat) (b : List By) : Prop where
  len : b.length = n
  cell : ∀ W, Below w.heap.size w W → ∀ j, j < n → W.cell? ⟨B, off + j, none⟩ = some (.int .u8 ((b.getD j 0).toNat : Int))
  cap : n ≤ cap
  big : n ≤ 140737488351232
theorem GW.fin {w : World} {b : List By} {g : Nat} {k : Int} {ID : List By} {io : Option Addr} {ic : Nat} {LC : List Cv} {lo : Option Addr} {lc : Nat} {tg : List By} {W W2 W3 : World} (h : GW w b g k ID io ic LC lo lc tg W) (htg : tg.length = 32) (hx : getR b = .ok ⟨k, ID, LC, tg⟩) (hib : ID.length ≤ 140737488351232) (h2 : SameBut w.heap.size W W2) (h3 : SameBut (w.heap.size + 1) W2 W3) :
    GetP b w (.returned (.tuple #[.agg (tkCells ⟨k, ID, LC, tg⟩ io ic lo lc).toArray, .agg #[.int .i64 0, .int .i64 0]])) W3 := by
  have ht2 := h.gp.tok
  have hw2 := h.gp.wrg.but h2 (by omega)
  refine ⟨h3.below (h2.below h.gp.bel (Nat.le_refl _)) (by omega), fun E A e => (by rw [hx] at e; cases e), fun x e => ?_⟩
  rw [hx] at e
  injection e with e
  subst e
  exact ⟨io, ic, lo, lc, rfl, own_le (own_butr (own_butr h.id h2 ht2 (by decide)) h3 hw2 (by decide)) (by omega), owB_low (owB_but (owB_but h.cav h2 ht2 (by decide)) h3 hw2 (by decide)) (by omega), htg, h.ok, hib⟩

set_option maxHeartbeats 4000000 in
set_option maxRecDepth 100000 in
theorem gst8 (c1 c4 c7 c8 c9 c10 c11 c12 c13 c14 c15 c16 c17 c18 c19 c20 c21 c22 c23 c24 c25 c26 c27 c28 c29 c30 c31 c32 c33 c34 c35 c36 c37 c38 c39 c40 c41 c42 c43 c44 c45 c46 c47 c48 c49 c50 c51 c52 c53 c54 c55 c56 c57 c58 c59 c60 c61 c62 c63 c64 c65 c66 c67 c68 c69 c70 c71 c72 c73 c74 c75 c76 c77 c78 c79 c80 c81 c82 c83 c84 c85 c86 c87 c88 c89 c90 c91 c92 c93 c94 c95 c96 c97 c98 c99 c100 c101 c102 c103 c104 c105 c106 c107 c108 c109 c110 c111 c112 c113 c114 c115 c116 c117 c118 c119 c120 c121 c122 c123 c124 c125 c126 c127 c128 c129 c130 c131 c132 c133 c134 c135 c136 c137 c138 c139 c140 c141 c142 c143 c144 c145 c146 c147 c148 c149 : Value) (w Wa : World) (B off n cap p g : Nat) (b ID : List By) (k : Int) (io : Option Addr) (ic : Nat) (LC : List Cv) (lo : Option Addr) (lc : Nat) (hB : BI w B off n cap b) (hW : GW w b g k ID io ic LC lo lc (List.replicate 32 0) Wa) (hp : p ≤ 1000) (hib : ID.length ≤ 64)
    (hx : getR b = if n < p + 32 then .error (6, n) else if p + 32 < n then .error (7, p + 32) else .ok ⟨k, ID, LC, b.drop p⟩) : Code.wp Tryz.prog (dropS 8 (Tryz.f24.body.getD .skip)) (bodyPost Tryz.prog Tryz.f24 (GetP b w)) ⟨#[.slice (some ⟨B, off, none⟩) n cap, c1, .pointer (some ⟨w.heap.size, 0, none⟩), .pointer (some ⟨w.heap.size + 1, 0, none⟩), c4, .pointer (some ⟨g, 0, none⟩), .int .i64 (p : Int), c7, c8, c9, c10, c11, c12, c13, c14, c15, c16, c17, c18, c19, c20, c21, c22, c23, c24, c25, c26, c27, c28, c29, c30, c31, c32, c33, c34, c35, c36, c37, c38, c39, c40, c41, c42, c43, c44, c45, c46, c47, c48, c49, c50, c51, c52, c53, c54, c55, c56, c57, c58, c59, c60, c61, c62, c63, c64, c65, c66, c67, c68, c69, c70, c71, c72, c73, c74, c75, c76, c77, c78, c79, c80, c81, c82, c83, c84, c85, c86, c87, c88, c89, c90, c91, c92, c93, c94, c95, c96, c97, c98, c99, c100, c101, c102, c103, c104, c105, c106, c107, c108, c109, c110, c111, c112, c113, c114, c115, c116, c117, c118, c119, c120, c121, c122, c123, c124, c125, c126, c127, c128, c129, c130, c131, c132, c133, c134, c135, c136, c137, c138, c139, c140, c141, c142, c143, c144, c145, c146, c147, c148, c149], []⟩ Wa := by
  conv => arg 2; whnf
  obtain ⟨pe, hpe⟩ : ∃ pe, pe = p + 32 := ⟨_, rfl⟩
  have z32 : IntKind.i64.wrap ((p : Int) + 32) = (pe : Int) := by rw [i64_in _ (by omega) (by omega), hpe]; push_cast; rfl
  by_cases h1 : n < pe
  · have HX : Hid (getR b = .error (6, n)) := by show _ = _; rw [hx, if_pos (by omega)]
    have HG : Hid (GP w Wa) := hW.gp
    clear hx hW hB hpe
    go_wp2_with (first
      | (have hz := HG; clear hz; refine wpList_store_Row rfl 28 _ _ rfl w.heap.size 28 0 zTk zTk HG.out.tok (Nat.le_refl _) rfl rfl (by kernel_rfl) (tkC_one _ _ _ _ _ _ _ _) ?_; intro w2 hr2 hs2)
      | (have hz := HG; clear hz; refine wpList_store_Row rfl 73 _ _ rfl (w.heap.size + 1) 73 0 _ [.int .i64 6, .int .i64 (n : Int)] (HG.out.wrg.but hs2 (by omega)) (Nat.le_refl _) rfl rfl (by kernel_rfl) (by simp [Value.oneCell']) ?_; intro w3 hr3 hs3))
    have q2 := (row_whole hr2 (by simp)).but hs3 (by omega)
    have q3 := row_whole hr3 (by simp)
    refine bodyPost_ret_by (results_rowrow Tryz.results24 _ w3 w.heap.size 28 (w.heap.size + 1) 73 _ _ _ _ rfl q2 Tryz.underlying28 rfl (by kernel_rfl) rfl q3 Tryz.underlying73 rfl (by kernel_rfl)) rfl ?_
    exact GetP.bad (hs3.below (hs2.below HG.out.bel (Nat.le_refl _)) (by omega)) HX.out
  · by_cases h2 : pe < n
    · have HX : Hid (getR b = .error (7, pe)) := by show _ = _; rw [hx, if_neg (by omega), if_pos (by omega), hpe]
      have HG : Hid (GP w Wa) := hW.gp
      clear hx hW hB hpe
      go_wp2_with (first
        | (have hz := HG; clear hz; refine wpList_store_Row rfl 28 _ _ rfl w.heap.size 28 0 zTk zTk HG.out.tok (Nat.le_refl _) rfl rfl (by kernel_rfl) (tkC_one _ _ _ _ _ _ _ _) ?_; intro w2 hr2 hs2)
        | (have hz := HG; clear hz; refine wpList_store_Row rfl 73 _ _ rfl (w.heap.size + 1) 73 0 _ [.int .i64 7, .int .i64 (pe : Int)] (HG.out.wrg.but hs2 (by omega)) (Nat.le_refl _) rfl rfl (by kernel_rfl) (by simp [Value.oneCell']) ?_; intro w3 hr3 hs3))
      have q2 := (row_whole hr2 (by simp)).but hs3 (by omega)
      have q3 := row_whole hr3 (by simp)
      refine bodyPost_ret_by (results_rowrow Tryz.results24 _ w3 w.heap.size 28 (w.heap.size + 1) 73 _ _ _ _ rfl q2 Tryz.underlying28 rfl (by kernel_rfl) rfl q3 Tryz.underlying73 rfl (by kernel_rfl)) rfl ?_
      exact GetP.bad (hs3.below (hs2.below HG.out.bel (Nat.le_refl _)) (by omega)) HX.out
    · have HX : Hid (getR b = .ok ⟨k, ID, LC, b.drop p⟩) := by show _ = _; rw [hx, if_neg (by omega), if_neg (by omega)]
      have HD : Hid ((b.drop p).length = 32) := by show _ = _; rw [List.length_drop, hB.len]; omega
      have HPN : Hid (p + 32 = n ∧ p ≤ 1000) := ⟨by omega, hp⟩
      have HBI : Hid (BI w B off n cap b) := hB
      have HW : Hid (GW w b g k ID io ic LC lo lc ((b.drop p).take 0 ++ List.replicate (32 - 0) 0) Wa) := hW
      have HIB : Hid (ID.length ≤ 64) := hib
      clear hx hW hB hpe hp hib
      go_wp2
      go_loopw [10] (fun iv wr => ∃ j : Nat, j ≤ 32 ∧ iv = .int .i64 (j : Int) ∧ Hid (GW w b g k ID io ic LC lo lc ((b.drop p).take j ++ List.replicate (32 - j) 0) wr)) (fun iv _ => 32 - (intOf iv).toNat)
      case atStart => exact ⟨0, by omega, rfl, HW⟩
      case round =>
        clear HW
        obtain ⟨j, hj, rfl, HJ⟩ := hrel
        by_cases hlt : j < 32
        · have y0 : (0 : Int) ≤ (j : Int) := by omega
          have y1 : (j : Int) < 32 := by omega
          have z1 : IntKind.i64.wrap ((j : Int) + 1) = (j : Int) + 1 := i64_in _ (by omega) (by omega)
          obtain ⟨pj, hpj⟩ : ∃ pj, pj = p + j := ⟨_, rfl⟩
          have z2 : IntKind.i64.wrap ((p : Int) + (j : Int)) = (pj : Int) := by rw [i64_in _ (by omega) (by have := HPN.out; omega), hpj]; push_cast; rfl
          have y2 : (pj : Int) < (n : Int) := by have := HPN.out; omega
          have y3 : (0 : Int) ≤ (pj : Int) := by omega
          have hc := HBI.out.cell wr HJ.out.gp.bel pj (by have := HPN.out; omega)
          have e3 : wr.cell? ⟨g, 3 + j, none⟩ = some (.int .u8 ((((b.drop p).take j ++ List.replicate (32 - j) 0).getD j 0).toNat : Int)) := by
            refine HJ.out.t.cell (3 + j) _ ?_
            have hl : ((b.drop p).take j ++ List.replicate (32 - j) (0 : By)).length = 32 := by rw [List.length_append, List.length_take, HD.out, List.length_replicate]; omega
            unfold tkC
            rw [List.getElem?_append_right (by simp), List.getElem?_map]
            have : j < ((b.drop p).take j ++ List.replicate (32 - j) (0 : By)).length := by rw [hl]; exact hlt
            simp only [List.length_cons, List.length_nil, Nat.zero_add, Nat.reduceAdd, Nat.add_sub_cancel_left]
            rw [List.getElem?_eq_getElem this, getD_lt this]
            rfl
          have f3 : wr.frozen? ⟨g, 3 + j, none⟩ = false := HJ.out.t.frozen (3 + j)
          have HN : Hid (GW w b g k ID io ic LC lo lc ((b.drop p).take (j + 1) ++ List.replicate (32 - (j + 1)) 0) (wr.setCell ⟨g, 3 + j, none⟩ (.int .u8 ((b.getD pj 0).toNat : Int)))) := by
            have h1 := HJ.out.tag j (b.getD pj 0)
            rw [set_mid b p j (b.getD pj 0) (by
              rw [List.getElem?_drop, ← hpj]
              have : pj < b.length := by rw [HBI.out.len]; have := HPN.out; omega
              rw [List.getElem?_eq_getElem this, getD_lt this]) hlt] at h1
            exact h1
          have HLT : Hid (j < 32) := hlt
          generalize (((b.drop p).take j ++ List.replicate (32 - j) (0 : By)).getD j 0).toNat = o3 at *
          generalize (b.getD pj 0).toNat = y at *
          clear HJ hpj hlt hj
          go_wp2
          exact ⟨⟨j + 1, HLT.out, by go_num, HN⟩, by have := HLT.out; simp [intOf]; omega⟩
        · obtain rfl : j = 32 := by omega
          have y1 : ¬ ((32 : Nat) : Int) < 32 := by omega
          have HJ2 : Hid (GW w b g k ID io ic LC lo lc (b.drop p) wr) := by
            have := HJ.out
            rw [List.take_of_length_le (by rw [HD.out]; omega)] at this
            have h9 : GW w b g k ID io ic LC lo lc (b.drop p) wr := by simpa using this
            exact h9
          obtain ⟨TG, hTG⟩ : ∃ TG, TG = b.drop p := ⟨_, rfl⟩
          rw [← hTG] at HJ2 HX HD
          obtain ⟨CC, hCC⟩ : ∃ CC, CC = tkC k io ID.length ic lo LC.length lc TG := ⟨_, rfl⟩
          have HCL : Hid (CC.length = 35) := by show _ = _; rw [hCC]; exact tkC_len HD.out
          have HRT : Hid (Row wr g 28 CC) := by rw [hCC]; exact HJ2.out.t
          have HC1 : Hid (∀ v ∈ CC, v.oneCell' = true) := by rw [hCC]; exact tkC_one _ _ _ _ _ _ _ _
          have HCC : Hid (CC = tkC k io ID.length ic lo LC.length lc TG) := hCC
          clear HJ hTG hCC
          go_wp2_with (first
            | (have hz := HRT; clear hz; refine wpList_load_Row rfl 28 (.tmp 5) rfl g 28 CC HRT.out rfl _ Tryz.underlying28 rfl (by rw [HCL.out]; kernel_rfl) ?_; clear HRT)
            | (have hz := HC1; clear hz; refine wpList_store_Row rfl 28 _ _ rfl w.heap.size 28 0 zTk CC HJ2.out.gp.tok (by rw [HCL.out]; exact Nat.le_refl _) rfl rfl (by rw [HCL.out]; kernel_rfl) HC1.out ?_; intro w2 hr2 hs2; clear HC1)
            | (refine wpList_store_Row rfl 73 _ _ rfl (w.heap.size + 1) 73 0 _ [.int .i64 0, .int .i64 0] (HJ2.out.gp.wrg.but hs2 (by omega)) (Nat.le_refl _) rfl rfl (by kernel_rfl) (by simp [Value.oneCell']) ?_; intro w3 hr3 hs3))
          have q2 := (row_whole hr2 (by rw [HCL.out]; exact Nat.le_refl _)).but hs3 (by omega)
          have q3 := row_whole hr3 (by simp)
          refine bodyPost_ret_by (results_rowrow Tryz.results24 _ w3 w.heap.size 28 (w.heap.size + 1) 73 _ _ _ _ rfl q2 Tryz.underlying28 rfl (by rw [HCL.out]; kernel_rfl) rfl q3 Tryz.underlying73 rfl (by kernel_rfl)) rfl ?_
          have := HJ2.out.fin HD.out HX.out (by have := HIB.out; omega) hs2 hs3
          rw [HCC.out]
          exact this
theorem cv_fresh {w : World} {b : List By} {g : Nat} {k : Int} {ID : List By} {io : Option Addr} {ic : Nat} {LC : List Cv} {lo : Option Addr} {lc : Nat} {tg : List By} {W : World} (h : GW w b g k ID io ic LC lo lc tg W) : W.cell? ⟨g, 2, none⟩ = some (.slice lo LC.length lc) := h.t.cell 2 _ rfl

set_option maxHeartbeats 4000000 in
set_option maxRecDepth 100000 in
theorem gst7 (c1 c4 c7 c8 c9 c10 c11 c12 c13 c14 c15 c16 c17 c18 c19 c20 c21 c22 c23 c24 c25 c26 c27 c28 c29 c30 c31 c32 c33 c34 c35 c36 c37 c38 c39 c40 c41 c42 c43 c44 c45 c46 c47 c48 c49 c50 c51 c52 c53 c54 c55 c56 c57 c58 c59 c60 c61 c62 c63 c64 c65 c66 c67 c68 c69 c70 c71 c72 c73 c74 c75 c76 c77 c78 c79 c80 c81 c82 c83 c84 c85 c86 c87 c88 c89 c90 c91 c92 c93 c94 c95 c96 c97 c98 c99 c100 c101 c102 c103 c104 c105 c106 c107 c108 c109 c110 c111 c112 c113 c114 c115 c116 c117 c118 c119 c120 c121 c122 c123 c124 c125 c126 c127 c128 c129 c130 c131 c132 c133 c134 c135 c136 c137 c138 c139 c140 c141 c142 c143 c144 c145 c146 c147 c148 c149 : Value) (w Wa : World) (B off n cap p0 g k7 : Nat) (b ID : List By) (k : Int) (io : Option Addr) (ic : Nat) (hB : BI w B off n cap b) (hW : GW w b g k ID io ic [] none 0 (List.replicate 32 0) Wa) (hp : p0 ≤ 100) (h8 : 8 ≤ n) (h7 : (b.getD 7 0).toNat = k7) (h32 : k7 ≤ 32) (hib : ID.length ≤ 64)
    (hx : getR b = match csR b p0 k7 with
      | .error x => .error x
      | .ok l => if n < p0 + 26 * k7 + 32 then .error (6, n) else if p0 + 26 * k7 + 32 < n then .error (7, p0 + 26 * k7 + 32) else .ok ⟨k, ID, l, b.drop (p0 + 26 * k7)⟩) : Code.wp Tryz.prog (dropS 7 (Tryz.f24.body.getD .skip)) (bodyPost Tryz.prog Tryz.f24 (GetP b w)) ⟨#[.slice (some ⟨B, off, none⟩) n cap, c1, .pointer (some ⟨w.heap.size, 0, none⟩), .pointer (some ⟨w.heap.size + 1, 0, none⟩), c4, .pointer (some ⟨g, 0, none⟩), .int .i64 (p0 : Int), c7, c8, c9, c10, c11, c12, c13, c14, c15, c16, c17, c18, c19, c20, c21, c22, c23, c24, c25, c26, c27, c28, c29, c30, c31, c32, c33, c34, c35, c36, c37, c38, c39, c40, c41, c42, c43, c44, c45, c46, c47, c48, c49, c50, c51, c52, c53, c54, c55, c56, c57, c58, c59, c60, c61, c62, c63, c64, c65, c66, c67, c68, c69, c70, c71, c72, c73, c74, c75, c76, c77, c78, c79, c80, c81, c82, c83, c84, c85, c86, c87, c88, c89, c90, c91, c92, c93, c94, c95, c96, c97, c98, c99, c100, c101, c102, c103, c104, c105, c106, c107, c108, c109, c110, c111, c112, c113, c114, c115, c116, c117, c118, c119, c120, c121, c122, c123, c124, c125, c126, c127, c128, c129, c130, c131, c132, c133, c134, c135, c136, c137, c138, c139, c140, c141, c142, c143, c144, c145, c146, c147, c148, c149], []⟩ Wa := by
  have NXT : Hid (∀ c1 c4 c7 c8 c9 c10 c11 c12 c13 c14 c15 c16 c17 c18 c19 c20 c21 c22 c23 c24 c25 c26 c27 c28 c29 c30 c31 c32 c33 c34 c35 c36 c37 c38 c39 c40 c41 c42 c43 c44 c45 c46 c47 c48 c49 c50 c51 c52 c53 c54 c55 c56 c57 c58 c59 c60 c61 c62 c63 c64 c65 c66 c67 c68 c69 c70 c71 c72 c73 c74 c75 c76 c77 c78 c79 c80 c81 c82 c83 c84 c85 c86 c87 c88 c89 c90 c91 c92 c93 c94 c95 c96 c97 c98 c99 c100 c101 c102 c103 c104 c105 c106 c107 c108 c109 c110 c111 c112 c113 c114 c115 c116 c117 c118 c119 c120 c121 c122 c123 c124 c125 c126 c127 c128 c129 c130 c131 c132 c133 c134 c135 c136 c137 c138 c139 c140 c141 c142 c143 c144 c145 c146 c147 c148 c149 Wb p LC lo lc, GW w b g k ID io ic LC lo lc (List.replicate 32 0) Wb → p = p0 + 26 * k7 → csR b p0 k7 = .ok LC → Code.wp Tryz.prog (dropS 8 (Tryz.f24.body.getD .skip)) (bodyPost Tryz.prog Tryz.f24 (GetP b w)) ⟨#[.slice (some ⟨B, off, none⟩) n cap, c1, .pointer (some ⟨w.heap.size, 0, none⟩), .pointer (some ⟨w.heap.size + 1, 0, none⟩), c4, .pointer (some ⟨g, 0, none⟩), .int .i64 (p : Int), c7, c8, c9, c10, c11, c12, c13, c14, c15, c16, c17, c18, c19, c20, c21, c22, c23, c24, c25, c26, c27, c28, c29, c30, c31, c32, c33, c34, c35, c36, c37, c38, c39, c40, c41, c42, c43, c44, c45, c46, c47, c48, c49, c50, c51, c52, c53, c54, c55, c56, c57, c58, c59, c60, c61, c62, c63, c64, c65, c66, c67, c68, c69, c70, c71, c72, c73, c74, c75, c76, c77, c78, c79, c80, c81, c82, c83, c84, c85, c86, c87, c88, c89, c90, c91, c92, c93, c94, c95, c96, c97, c98, c99, c100, c101, c102, c103, c104, c105, c106, c107, c108, c109, c110, c111, c112, c113, c114, c115, c116, c117, c118, c119, c120, c121, c122, c123, c124, c125, c126, c127, c128, c129, c130, c131, c132, c133, c134, c135, c136, c137, c138, c139, c140, c141, c142, c143, c144, c145, c146, c147, c148, c149], []⟩ Wb) := fun c1 c4 c7 c8 c9 c10 c11 c12 c13 c14 c15 c16 c17 c18 c19 c20 c21 c22 c23 c24 c25 c26 c27 c28 c29 c30 c31 c32 c33 c34 c35 c36 c37 c38 c39 c40 c41 c42 c43 c44 c45 c46 c47 c48 c49 c50 c51 c52 c53 c54 c55 c56 c57 c58 c59 c60 c61 c62 c63 c64 c65 c66 c67 c68 c69 c70 c71 c72 c73 c74 c75 c76 c77 c78 c79 c80 c81 c82 c83 c84 c85 c86 c87 c88 c89 c90 c91 c92 c93 c94 c95 c96 c97 c98 c99 c100 c101 c102 c103 c104 c105 c106 c107 c108 c109 c110 c111 c112 c113 c114 c115 c116 c117 c118 c119 c120 c121 c122 c123 c124 c125 c126 c127 c128 c129 c130 c131 c132 c133 c134 c135 c136 c137 c138 c139 c140 c141 c142 c143 c144 c145 c146 c147 c148 c149 Wb p LC lo lc hW2 hpp hcs => gst8 c1 c4 c7 c8 c9 c10 c11 c12 c13 c14 c15 c16 c17 c18 c19 c20 c21 c22 c23 c24 c25 c26 c27 c28 c29 c30 c31 c32 c33 c34 c35 c36 c37 c38 c39 c40 c41 c42 c43 c44 c45 c46 c47 c48 c49 c50 c51 c52 c53 c54 c55 c56 c57 c58 c59 c60 c61 c62 c63 c64 c65 c66 c67 c68 c69 c70 c71 c72 c73 c74 c75 c76 c77 c78 c79 c80 c81 c82 c83 c84 c85 c86 c87 c88 c89 c90 c91 c92 c93 c94 c95 c96 c97 c98 c99 c100 c101 c102 c103 c104 c105 c106 c107 c108 c109 c110 c111 c112 c113 c114 c115 c116 c117 c118 c119 c120 c121 c122 c123 c124 c125 c126 c127 c128 c129 c130 c131 c132 c133 c134 c135 c136 c137 c138 c139 c140 c141 c142 c143 c144 c145 c146 c147 c148 c149 w Wb B off n cap p g b ID k io ic LC lo lc hB hW2 (by omega) hib (by rw [hx, hcs, hpp])
  have HGS : Hid (∀ x, csR b p0 k7 = .error x → getR b = .error x) := fun x e => by rw [hx, e]
  have B7 : Hid (∀ W, Below w.heap.size w W → W.cell? ⟨B, off + 7, none⟩ = some (.int .u8 (k7 : Int))) := fun W hb => by rw [← h7]; exact hB.cell W hb 7 (by omega)
  have BA : Hid (∀ W, Below w.heap.size w W → ∀ j, j < n → W.cell? ⟨B, off + j, none⟩ = some (.int .u8 ((b.getD j 0).toNat : Int))) := hB.cell
  have HB0 : Hid (b.length = n) := hB.len
  have HC : Hid (n ≤ cap ∧ n ≤ 140737488351232) := ⟨hB.cap, hB.big⟩
  have i7 : (7 : Int) < (n : Int) := by omega
  have zk7 : IntKind.i64.wrap (k7 : Int) = (k7 : Int) := i64_in _ (by omega) (by omega)
  have HKK : Hid (p0 ≤ 100 ∧ k7 ≤ 32 ∧ 8 ≤ n) := ⟨hp, h32, h8⟩
  have HL0 : Hid (GW w b g k ID io ic [] none 0 (List.replicate 32 0) Wa) := hW
  clear hx hW hB hp h8 h7 h32 hib
  conv => arg 2; whnf
  refine wp_seq_k fun K hK => ?_
  have HKS : Hid _ := hK
  clear hK
  go_wp2
  go_loopw [6, 8] (fun pv iv wx => ∃ (i p : Nat) (LC : List Cv) (lo : Option Addr) (lc : Nat), i ≤ k7 ∧ pv = .int .i64 (p : Int) ∧ iv = .int .i64 (i : Int) ∧ Hid (p = p0 + 26 * i ∧ LC.length = i ∧ csT b p (k7 - i) LC k7 p0) ∧ Hid (GW w b g k ID io ic LC lo lc (List.replicate 32 0) wx)) (fun _ iv _ => k7 - (intOf iv).toNat)
  case atStart =>
    refine ⟨0, p0, [], none, 0, by omega, rfl, rfl, ⟨by omega, rfl, ?_⟩, HL0⟩
    unfold csT
    rw [Nat.sub_zero]
    cases csR b p0 k7 <;> simp
  case round =>
    clear HL0
    obtain ⟨i, p, LC, lo, lc, hi, rfl, rfl, HI, HW⟩ := hrel
    have c7 := B7.out wr HW.out.gp.bel
    by_cases hik : i < k7
    · have y1 : (i : Int) < (k7 : Int) := by omega
      have HLK : Hid (i < k7) := hik
      have zi1 : IntKind.i64.wrap ((i : Int) + 1) = (i : Int) + 1 := i64_in _ (by omega) (by have := HKK.out; omega)
      have HPN : Hid (p ≤ 1000) := by show p ≤ 1000; have := HI.out; have := HKK.out; omega
      have z26 : IntKind.i64.wrap ((p : Int) + 26) = (p : Int) + 26 := i64_in _ (by omega) (by have := HPN.out; omega)
      have HT : Hid (csT b p (k7 - (i + 1) + 1) LC k7 (p0)) := by have := HI.out.2.2; rw [show k7 - i = k7 - (i + 1) + 1 by omega] at this; exact this
      by_cases h26 : n < p + 26
      · have y2 : (n : Int) < (p : Int) + 26 := by omega
        have HX : Hid (getR b = .error (6, n)) := by
          have h1 := csT_bad (x := (6, n)) HT.out (by rw [csR, HB0.out, if_pos h26])
          exact HGS.out _ h1
        have HG : Hid (GP w wr) := HW.out.gp
        clear HGS HI HT HW hik h26
        go_wp2_with (first
          | (have hz := HG; clear hz; refine wpList_store_Row rfl 28 _ _ rfl w.heap.size 28 0 zTk zTk HG.out.tok (Nat.le_refl _) rfl rfl (by kernel_rfl) (tkC_one _ _ _ _ _ _ _ _) ?_; intro w2 hr2 hs2)
          | (have hz := HG; clear hz; refine wpList_store_Row rfl 73 _ _ rfl (w.heap.size + 1) 73 0 _ [.int .i64 6, .int .i64 (n : Int)] (HG.out.wrg.but hs2 (by omega)) (Nat.le_refl _) rfl rfl (by kernel_rfl) (by simp [Value.oneCell']) ?_; intro w3 hr3 hs3))
        have q2 := (row_whole hr2 (by simp)).but hs3 (by omega)
        have q3 := row_whole hr3 (by simp)
        refine bodyPost_ret_by (results_rowrow Tryz.results24 _ w3 w.heap.size 28 (w.heap.size + 1) 73 _ _ _ _ rfl q2 Tryz.underlying28 rfl (by kernel_rfl) rfl q3 Tryz.underlying73 rfl (by kernel_rfl)) rfl ?_
        exact GetP.bad (hs3.below (hs2.below HG.out.bel (Nat.le_refl _)) (by omega)) HX.out
      · have y2 : ¬ (n : Int) < (p : Int) + 26 := by omega
        have HN26 : Hid (p + 26 ≤ n) := by show _ ≤ _; omega
        have d : cvAt (b.drop p) = ⟨((b.getD p 0).toNat : Int), ((b.getD (p + 1) 0).toNat : Int), i64N (num8 (b.drop (p + 2))), i64N (num8 (b.drop (p + 10))), num8 (b.drop (p + 18))⟩ := by
          unfold cvAt
          rw [getD_drop24, getD_drop24, List.drop_drop, List.drop_drop, List.drop_drop]
          rfl
        have C0 : Hid (∀ W, Below wr.heap.size wr W → W.cell? ⟨B, off + p, none⟩ = some (.int .u8 ((b.getD p 0).toNat : Int))) := fun W hW => BA.out W (HW.out.gp.keep hW).bel p (by omega)
        have C1 : Hid (∀ W, Below wr.heap.size wr W → W.cell? ⟨B, off + (p + 1), none⟩ = some (.int .u8 ((b.getD (p + 1) 0).toNat : Int))) := fun W hW => BA.out W (HW.out.gp.keep hW).bel (p + 1) (by omega)
        have NU : ∀ k, p + k + 8 ≤ n → ∀ W, Below wr.heap.size wr W → Calls Tryz.prog 46 #[.slice (some ⟨B, off + (p + k), none⟩) (n - (p + k)) (cap - (p + k))] W fun e w' => e = .returned (.int .u64 (num8 (b.drop (p + k)) : Int)) ∧ w' = W := fun k hk W hW => r24number_any B (off + (p + k)) (n - (p + k)) _ (b.drop (p + k)) (by omega) W (fun j hj => by
          rw [getD_drop24, Nat.add_assoc]
          exact BA.out W (HW.out.gp.keep hW).bel (p + k + j) (by omega))
        have N2 : Hid (∀ W, _) := NU 2 (by omega)
        have N10 : Hid (∀ W, _) := NU 10 (by omega)
        have N18 : Hid (∀ W, _) := NU 18 (by omega)
        have CW2 : Hid (IntKind.i64.wrap (num8 (b.drop (p + 2)) : Int) = i64N (num8 (b.drop (p + 2)))) := i64N_wrap _ (num8_lt _)
        have CW10 : Hid (IntKind.i64.wrap (num8 (b.drop (p + 10)) : Int) = i64N (num8 (b.drop (p + 10)))) := i64N_wrap _ (num8_lt _)
        have hok : (cvAt (b.drop p)).ok := cvAt_ok _
        have FM : Hid (∀ W v, v = cvMay (cvAt (b.drop p)) → Calls Tryz.prog 37 #[.agg (cvC (cvAt (b.drop p))).toArray] W fun e w' => e = .returned (.bool v) ∧ Below W.heap.size W w') := fun W v hv => by rw [hv]; exact r24cMay_any _ _ _ _ _ hok.z W
        have HDC : Hid (∀ v, v = cvMay (cvAt (b.drop p)) → (v = false → getR b = .error (5, p)) ∧ (v = true → csT b (p + 26) (k7 - (i + 1)) (LC ++ [cvAt (b.drop p)]) k7 (p0))) := fun v hv => by
          refine ⟨fun e => ?_, fun e => ?_⟩
          · have h1 := csT_bad (x := (5, p)) HT.out (by rw [csR, HB0.out, if_neg h26, ← hv, e]; rfl)
            exact HGS.out _ h1
          · exact csT_next HT.out (by rw [HB0.out]; exact h26) (by rw [← hv, e])
        have HOK : Hid ((cvAt (b.drop p)).ok) := hok
        rw [d] at FM
        have HD : Hid (cvAt (b.drop p) = ⟨((b.getD p 0).toNat : Int), ((b.getD (p + 1) 0).toNat : Int), i64N (num8 (b.drop (p + 2))), i64N (num8 (b.drop (p + 10))), num8 (b.drop (p + 18))⟩) := d
        obtain ⟨vv, hvv⟩ : ∃ v, v = cvMay (cvAt (b.drop p)) := ⟨_, rfl⟩
        obtain ⟨s1, s2⟩ := HDC.out vv hvv
        rw [d] at hvv
        have FM2 : Hid (∀ W, _) := fun W => FM.out W vv hvv
        clear NU d hok HDC HT hvv FM h26 hik
        have KB : Hid ((b.getD p 0).toNat < 256 ∧ (b.getD (p + 1) 0).toNat < 256) := ⟨(b.getD p 0).isLt, (b.getD (p + 1) 0).isLt⟩
        generalize (b.getD p 0).toNat = k0 at *
        generalize (b.getD (p + 1) 0).toNat = k1 at *
        generalize num8 (b.drop (p + 2)) = X2 at *
        generalize num8 (b.drop (p + 10)) = X10 at *
        generalize num8 (b.drop (p + 18)) = X18 at *
        generalize i64N X2 = Y2 at *
        generalize i64N X10 = Y10 at *
        have CO : Hid (∀ v ∈ [Value.int .i64 (k0 : Int), .int .i64 (k1 : Int), .int .i64 Y2, .int .i64 Y10, .int .u64 (X18 : Int)], v.oneCell' = true) := cvC_one ⟨k0, k1, Y2, Y10, X18⟩
        have zk0 : IntKind.i64.wrap (k0 : Int) = (k0 : Int) := i64_in _ (by omega) (by have := KB.out; omega)
        have zk1 : IntKind.i64.wrap (k1 : Int) = (k1 : Int) := i64_in _ (by omega) (by have := KB.out; omega)
        have t2 : ((p : Int) + 2).toNat = p + 2 := by omega
        have t10 : ((p : Int) + 10).toNat = p + 10 := by omega
        have t18 : ((p : Int) + 18).toNat = p + 18 := by omega
        have z1 : IntKind.i64.wrap ((p : Int) + 1) = (p : Int) + 1 := i64_in _ (by omega) (by have := HPN.out; omega)
        have z2 : IntKind.i64.wrap ((p : Int) + 2) = (p : Int) + 2 := i64_in _ (by omega) (by have := HPN.out; omega)
        have z10 : IntKind.i64.wrap ((p : Int) + 10) = (p : Int) + 10 := i64_in _ (by omega) (by have := HPN.out; omega)
        have z18 : IntKind.i64.wrap ((p : Int) + 18) = (p : Int) + 18 := i64_in _ (by omega) (by have := HPN.out; omega)
        have u0 : (p : Int) < (n : Int) := by have := HN26.out; omega
        have u1 : (p : Int) + 1 < (n : Int) := by have := HN26.out; omega
        have u2 : (p : Int) + 2 ≤ (n : Int) := by have := HN26.out; omega
        have u3 : (p : Int) + 10 ≤ (n : Int) := by have := HN26.out; omega
        have u4 : (p : Int) + 18 ≤ (n : Int) := by have := HN26.out; omega
        have v2 : ¬ cap = p + 2 := by have := HN26.out; have := HC.out; omega
        have v3 : ¬ cap = p + 10 := by have := HN26.out; have := HC.out; omega
        have v4 : ¬ cap = p + 18 := by have := HN26.out; have := HC.out; omega
        have HNX : Hid (i < k7 ∧ p = p0 + 26 * i ∧ LC.length = i) := ⟨HLK.out, HI.out.1, HI.out.2.1⟩
        clear HI HGS
        go_upto_region 19 with fail
        refine wp_region_inv (IGG19 wr B off n cap p k0 k1 X2 X10 X18 Y2 Y10 _ _ _ _ _ _ _ _ _ _ _ _ _ _ _ _ _ _ _ _ _ _ _ _ _ _ _ _ _ _ _ _ _ _ _ _ _ _ _ _ _ _ _ _ _ _ _ _ _ _ _ _ _ _ _ _ _ _ _ _ _ _ _ _ _ _ _ _ _ _ _ _ _ _ _ _ _ _ _ _ _ _ _ _ _ _ _ _ _ _ _ _ _ _ _ _ _ _ _ _ _ _ _ _ _ _ _ _ _ _ _ _ _ _ _ _ _ _ _ _) (by kernel_rfl) (by kernel_rfl) ⟨_, _, _, _, _, _, _, _, _, _, _, _, _, _, _, _, _, _, _, _, _, _, _, _, _, _, _, _, _, _, rfl, ⟨G9.start _ _, fun k => (by cases k), fun k => (by cases k), fun k => (by cases k), fun k => (by cases k), fun k => (by cases k), fun k => (by cases k), fun k => (by cases k), fun k => (by cases k), fun k => (by cases k), fun k => (by cases k), fun k => (by cases k), fun k => (by cases k), fun k => (by cases k), fun k => (by cases k), fun k => (by cases k), fun k => (by cases k), fun k => (by cases k), fun k => (by cases k), fun k => (by cases k), fun k => (by cases k), fun k => (by cases k), fun k => (by cases k), fun k => (by cases k), fun k => (by cases k), fun k => (by cases k), fun k => (by cases k), fun k => (by cases k), fun k => (by cases k), fun k => (by cases k), fun k => (by cases k), fun k => (by cases k)⟩⟩ ?_ ?_
        · refine .cons ?_ (.cons ?_ (.cons ?_ (.cons ?_ (.cons ?_ (.cons ?_ (.cons ?_ (.cons ?_ (.cons ?_ (.cons ?_ (.cons ?_ (.cons ?_ (.cons ?_ (.cons ?_ (.cons ?_ (.cons ?_ (.cons ?_ (.cons ?_ (.cons ?_ (.cons ?_ (.cons ?_ (.cons ?_ (.cons ?_ (.cons ?_ (.cons ?_ (.cons ?_ (.cons ?_ (.cons ?_ (.cons ?_ (.cons ?_ (.cons ?_ .nil))))))))))))))))))))))))))))))
          all_goals (refine GG19.step ?_; intro x74 x75 x76 x77 x78 x79 x80 x81 x82 x83 x84 x85 x86 x87 x88 x89 x90 x91 x92 x93 x94 x95 x96 x97 x98 x99 x100 x101 x102 x9 L W hI hL hd K hK)
          · rw [if_pos (by rfl)]
            go_simp
            exact hK.out _ _ ⟨_, _, _, _, _, _, _, _, _, _, _, _, _, _, _, _, _, _, _, _, _, _, _, _, _, _, _, _, _, _, rfl, { hI with p0 := fun _ => rfl }⟩
          · rw [if_pos (by rfl)]
            go_simp
            exact hK.out _ _ ⟨_, _, _, _, _, _, _, _, _, _, _, _, _, _, _, _, _, _, _, _, _, _, _, _, _, _, _, _, _, _, rfl, { hI with p1 := fun _ => rfl }⟩
          · obtain rfl := hI.p0 (hd 0 (by decide))
            obtain rfl := hI.p1 (hd 1 (by decide))
            rw [if_pos (by rfl)]
            go_simp
            exact hK.out _ _ ⟨_, _, _, _, _, _, _, _, _, _, _, _, _, _, _, _, _, _, _, _, _, _, _, _, _, _, _, _, _, _, rfl, { hI with p2 := fun _ => rfl }⟩
          · obtain rfl := hI.p2 (hd 2 (by decide))
            rw [if_pos (by rfl)]
            have hc := C0.out _ hI.x.bel
            go_simp
            exact hK.out _ _ ⟨_, _, _, _, _, _, _, _, _, _, _, _, _, _, _, _, _, _, _, _, _, _, _, _, _, _, _, _, _, _, rfl, { hI with p3 := fun _ => rfl }⟩
          · obtain rfl := hI.p3 (hd 3 (by decide))
            rw [if_pos (by rfl)]
            go_simp
            exact hK.out _ _ ⟨_, _, _, _, _, _, _, _, _, _, _, _, _, _, _, _, _, _, _, _, _, _, _, _, _, _, _, _, _, _, rfl, { hI with p4 := fun _ => rfl }⟩
          · rw [if_pos (by rfl)]
            go_simp
            exact hK.out _ _ ⟨_, _, _, _, _, _, _, _, _, _, _, _, _, _, _, _, _, _, _, _, _, _, _, _, _, _, _, _, _, _, rfl, { hI with p5 := fun _ => rfl }⟩
          · rw [if_pos (by rfl)]
            go_simp
            exact hK.out _ _ ⟨_, _, _, _, _, _, _, _, _, _, _, _, _, _, _, _, _, _, _, _, _, _, _, _, _, _, _, _, _, _, rfl, { hI with p6 := fun _ => rfl }⟩
          · obtain rfl := hI.p6 (hd 6 (by decide))
            rw [if_pos (by rfl)]
            go_simp
            exact hK.out _ _ ⟨_, _, _, _, _, _, _, _, _, _, _, _, _, _, _, _, _, _, _, _, _, _, _, _, _, _, _, _, _, _, rfl, { hI with p7 := fun _ => rfl }⟩
          · obtain rfl := hI.p5 (hd 5 (by decide))
            obtain rfl := hI.p7 (hd 7 (by decide))
            rw [if_pos (by rfl)]
            go_simp
            exact hK.out _ _ ⟨_, _, _, _, _, _, _, _, _, _, _, _, _, _, _, _, _, _, _, _, _, _, _, _, _, _, _, _, _, _, rfl, { hI with p8 := fun _ => rfl }⟩
          · obtain rfl := hI.p8 (hd 8 (by decide))
            rw [if_pos (by rfl)]
            have hc := C1.out _ hI.x.bel
            go_simp
            exact hK.out _ _ ⟨_, _, _, _, _, _, _, _, _, _, _, _, _, _, _, _, _, _, _, _, _, _, _, _, _, _, _, _, _, _, rfl, { hI with p9 := fun _ => rfl }⟩
          · obtain rfl := hI.p9 (hd 9 (by decide))
            rw [if_pos (by rfl)]
            go_simp
            exact hK.out _ _ ⟨_, _, _, _, _, _, _, _, _, _, _, _, _, _, _, _, _, _, _, _, _, _, _, _, _, _, _, _, _, _, rfl, { hI with p10 := fun _ => rfl }⟩
          · rw [if_pos (by rfl)]
            go_simp
            exact hK.out _ _ ⟨_, _, _, _, _, _, _, _, _, _, _, _, _, _, _, _, _, _, _, _, _, _, _, _, _, _, _, _, _, _, rfl, { hI with p11 := fun _ => rfl }⟩
          · rw [if_pos (by rfl)]
            go_simp
            exact hK.out _ _ ⟨_, _, _, _, _, _, _, _, _, _, _, _, _, _, _, _, _, _, _, _, _, _, _, _, _, _, _, _, _, _, rfl, { hI with p12 := fun _ => rfl }⟩
          · obtain rfl := hI.p12 (hd 12 (by decide))
            rw [if_pos (by rfl)]
            go_simp
            exact hK.out _ _ ⟨_, _, _, _, _, _, _, _, _, _, _, _, _, _, _, _, _, _, _, _, _, _, _, _, _, _, _, _, _, _, rfl, { hI with p13 := fun _ => rfl }⟩
          · obtain rfl := hI.p11 (hd 11 (by decide))
            obtain rfl := hI.p13 (hd 13 (by decide))
            rw [if_pos (by rfl)]
            go_simp
            exact hK.out _ _ ⟨_, _, _, _, _, _, _, _, _, _, _, _, _, _, _, _, _, _, _, _, _, _, _, _, _, _, _, _, _, _, rfl, { hI with p14 := fun _ => rfl }⟩
          · obtain rfl := hI.p14 (hd 14 (by decide))
            rw [if_pos (by rfl)]
            go_simp
            refine (N2.out _ hI.x.bel).mono ?_
            rintro e W2 ⟨rfl, rfl⟩
            go_simp
            have hX := hI.x
            exact hK.out _ _ ⟨_, _, _, _, _, _, _, _, _, _, _, _, _, _, _, _, _, _, _, _, _, _, _, _, _, _, _, _, _, _, rfl, { hI with x := hX, p15 := fun _ => rfl }⟩
          · obtain rfl := hI.p15 (hd 15 (by decide))
            rw [if_pos (by rfl)]
            have hcv := CW2.out
            go_simp
            exact hK.out _ _ ⟨_, _, _, _, _, _, _, _, _, _, _, _, _, _, _, _, _, _, _, _, _, _, _, _, _, _, _, _, _, _, rfl, { hI with p16 := fun _ => rfl }⟩
          · rw [if_pos (by rfl)]
            go_simp
            exact hK.out _ _ ⟨_, _, _, _, _, _, _, _, _, _, _, _, _, _, _, _, _, _, _, _, _, _, _, _, _, _, _, _, _, _, rfl, { hI with p17 := fun _ => rfl }⟩
          · rw [if_pos (by rfl)]
            go_simp
            exact hK.out _ _ ⟨_, _, _, _, _, _, _, _, _, _, _, _, _, _, _, _, _, _, _, _, _, _, _, _, _, _, _, _, _, _, rfl, { hI with p18 := fun _ => rfl }⟩
          · obtain rfl := hI.p18 (hd 18 (by decide))
            rw [if_pos (by rfl)]
            go_simp
            exact hK.out _ _ ⟨_, _, _, _, _, _, _, _, _, _, _, _, _, _, _, _, _, _, _, _, _, _, _, _, _, _, _, _, _, _, rfl, { hI with p19 := fun _ => rfl }⟩
          · obtain rfl := hI.p17 (hd 17 (by decide))
            obtain rfl := hI.p19 (hd 19 (by decide))
            rw [if_pos (by rfl)]
            go_simp
            exact hK.out _ _ ⟨_, _, _, _, _, _, _, _, _, _, _, _, _, _, _, _, _, _, _, _, _, _, _, _, _, _, _, _, _, _, rfl, { hI with p20 := fun _ => rfl }⟩
          · obtain rfl := hI.p20 (hd 20 (by decide))
            rw [if_pos (by rfl)]
            go_simp
            refine (N10.out _ hI.x.bel).mono ?_
            rintro e W2 ⟨rfl, rfl⟩
            go_simp
            have hX := hI.x
            exact hK.out _ _ ⟨_, _, _, _, _, _, _, _, _, _, _, _, _, _, _, _, _, _, _, _, _, _, _, _, _, _, _, _, _, _, rfl, { hI with x := hX, p21 := fun _ => rfl }⟩
          · obtain rfl := hI.p21 (hd 21 (by decide))
            rw [if_pos (by rfl)]
            have hcv := CW10.out
            go_simp
            exact hK.out _ _ ⟨_, _, _, _, _, _, _, _, _, _, _, _, _, _, _, _, _, _, _, _, _, _, _, _, _, _, _, _, _, _, rfl, { hI with p22 := fun _ => rfl }⟩
          · rw [if_pos (by rfl)]
            go_simp
            exact hK.out _ _ ⟨_, _, _, _, _, _, _, _, _, _, _, _, _, _, _, _, _, _, _, _, _, _, _, _, _, _, _, _, _, _, rfl, { hI with p23 := fun _ => rfl }⟩
          · rw [if_pos (by rfl)]
            go_simp
            exact hK.out _ _ ⟨_, _, _, _, _, _, _, _, _, _, _, _, _, _, _, _, _, _, _, _, _, _, _, _, _, _, _, _, _, _, rfl, { hI with p24 := fun _ => rfl }⟩
          · obtain rfl := hI.p24 (hd 24 (by decide))
            rw [if_pos (by rfl)]
            go_simp
            exact hK.out _ _ ⟨_, _, _, _, _, _, _, _, _, _, _, _, _, _, _, _, _, _, _, _, _, _, _, _, _, _, _, _, _, _, rfl, { hI with p25 := fun _ => rfl }⟩
          · obtain rfl := hI.p23 (hd 23 (by decide))
            obtain rfl := hI.p25 (hd 25 (by decide))
            rw [if_pos (by rfl)]
            go_simp
            exact hK.out _ _ ⟨_, _, _, _, _, _, _, _, _, _, _, _, _, _, _, _, _, _, _, _, _, _, _, _, _, _, _, _, _, _, rfl, { hI with p26 := fun _ => rfl }⟩
          · obtain rfl := hI.p26 (hd 26 (by decide))
            rw [if_pos (by rfl)]
            go_simp
            refine (N18.out _ hI.x.bel).mono ?_
            rintro e W2 ⟨rfl, rfl⟩
            go_simp
            have hX := hI.x
            exact hK.out _ _ ⟨_, _, _, _, _, _, _, _, _, _, _, _, _, _, _, _, _, _, _, _, _, _, _, _, _, _, _, _, _, _, rfl, { hI with x := hX, p27 := fun _ => rfl }⟩
          · obtain rfl := hI.p4 (hd 4 (by decide))
            obtain rfl := hI.p10 (hd 10 (by decide))
            obtain rfl := hI.p16 (hd 16 (by decide))
            obtain rfl := hI.p22 (hd 22 (by decide))
            obtain rfl := hI.p27 (hd 27 (by decide))
            rw [if_pos (by rfl)]
            go_simp
            exact hK.out _ _ ⟨_, _, _, _, _, _, _, _, _, _, _, _, _, _, _, _, _, _, _, _, _, _, _, _, _, _, _, _, _, _, rfl, { hI with p28 := fun _ => rfl }⟩
          · have h30 : L 30 = false := Bool.eq_false_iff.2 (fun e => (by have h7 := hI.c30_29 e; rw [hL] at h7; exact Bool.noConfusion h7))
            have hx0 := hI.x
            rw [hL, h30] at hx0
            have hsz := hx0.sz rfl
            rw [if_pos (by rfl)]
            go_simp
            have hX := hx0.alloc h30
            exact hK.out _ _ ⟨_, _, _, _, _, _, _, _, _, _, _, _, _, _, _, _, _, _, _, _, _, _, _, _, _, _, _, _, _, _, rfl, { hI with x := hX, p29 := fun _ => rfl, c30_29 := fun _ => rfl }⟩
          · obtain rfl := hI.p29 (hd 29 (by decide))
            obtain rfl := hI.p28 (hd 28 (by decide))
            have hx0 := hI.x
            have h29 := hd 29 (by decide)
            rw [h29, hL] at hx0
            refine step_store_Row rfl 50 _ _ rfl wr.heap.size 50 zCv [.int .i64 (k0 : Int), .int .i64 (k1 : Int), .int .i64 Y2, .int .i64 Y10, .int .u64 (X18 : Int)] (hx0.row rfl) rfl rfl rfl (by kernel_rfl) CO.out ?_
            intro W2 hr2 hs2
            have hX := hx0.store rfl h29 hr2 hs2
            exact hK.out _ _ ⟨_, _, _, _, _, _, _, _, _, _, _, _, _, _, _, _, _, _, _, _, _, _, _, _, _, _, _, _, _, _, rfl, { hI with x := hX, c30_29 := fun _ => (hd 29 (by decide)) }⟩
        · rintro L _ W hall ⟨x74, x75, x76, x77, x78, x79, x80, x81, x82, x83, x84, x85, x86, x87, x88, x89, x90, x91, x92, x93, x94, x95, x96, x97, x98, x99, x100, x101, x102, x9, rfl, hI⟩
          obtain rfl := hI.p0 (hall 0 (by decide))
          obtain rfl := hI.p1 (hall 1 (by decide))
          obtain rfl := hI.p2 (hall 2 (by decide))
          obtain rfl := hI.p3 (hall 3 (by decide))
          obtain rfl := hI.p4 (hall 4 (by decide))
          obtain rfl := hI.p5 (hall 5 (by decide))
          obtain rfl := hI.p6 (hall 6 (by decide))
          obtain rfl := hI.p7 (hall 7 (by decide))
          obtain rfl := hI.p8 (hall 8 (by decide))
          obtain rfl := hI.p9 (hall 9 (by decide))
          obtain rfl := hI.p10 (hall 10 (by decide))
          obtain rfl := hI.p11 (hall 11 (by decide))
          obtain rfl := hI.p12 (hall 12 (by decide))
          obtain rfl := hI.p13 (hall 13 (by decide))
          obtain rfl := hI.p14 (hall 14 (by decide))
          obtain rfl := hI.p15 (hall 15 (by decide))
          obtain rfl := hI.p16 (hall 16 (by decide))
          obtain rfl := hI.p17 (hall 17 (by decide))
          obtain rfl := hI.p18 (hall 18 (by decide))
          obtain rfl := hI.p19 (hall 19 (by decide))
          obtain rfl := hI.p20 (hall 20 (by decide))
          obtain rfl := hI.p21 (hall 21 (by decide))
          obtain rfl := hI.p22 (hall 22 (by decide))
          obtain rfl := hI.p23 (hall 23 (by decide))
          obtain rfl := hI.p24 (hall 24 (by decide))
          obtain rfl := hI.p25 (hall 25 (by decide))
          obtain rfl := hI.p26 (hall 26 (by decide))
          obtain rfl := hI.p27 (hall 27 (by decide))
          obtain rfl := hI.p28 (hall 28 (by decide))
          obtain rfl := hI.p29 (hall 29 (by decide))
          have hXe := hI.x
          rw [hall 29 (by decide)] at hXe
          rw [hall 30 (by decide)] at hXe
          clear hI hall
          try dsimp only
          have rX : Row W wr.heap.size 50 [.int .i64 (k0 : Int), .int .i64 (k1 : Int), .int .i64 Y2, .int .i64 Y10, .int .u64 (X18 : Int)] := hXe.row rfl
          have HW2 : Hid (GW w b g k ID io ic LC lo lc (List.replicate 32 0) W) := HW.out.keep hXe.bel
          have RX : Hid (∀ W2, Below W.heap.size W W2 → Row W2 wr.heap.size 50 [.int .i64 (k0 : Int), .int .i64 (k1 : Int), .int .i64 Y2, .int .i64 Y10, .int .u64 (X18 : Int)]) := fun W2 h => rX.below h rX.lt
          clear hXe HW C0 C1 N2 N10 N18 CW2 CW10 u0 u1 u2 u3 u4 v2 v3 v4 t2 t10 t18 z1 z2 z10 z18 zk0 zk1 KB c7
          generalize wr.heap.size = gx at *
          cases vv with
          | false =>
            have HX : Hid (getR b = .error (5, p)) := s1 rfl
            clear s1 s2
            go_wp2_with (first
              | (have hz := rX; clear hz; refine wpList_load_Row rfl 50 (.tmp 9) rfl gx 50 _ rX rfl _ Tryz.underlying50 rfl (by kernel_rfl) ?_; clear rX)
              | (go_at_call 37; refine (FM2.out _).mono ?_; rintro e w4 ⟨rfl, hb4⟩; have HG : Hid (GP w w4) := HW2.out.gp.keep hb4; clear hb4 HW2 FM2)
              | (have hz := HG; clear hz; refine wpList_store_Row rfl 28 _ _ rfl w.heap.size 28 0 zTk zTk HG.out.tok (Nat.le_refl _) rfl rfl (by kernel_rfl) (tkC_one _ _ _ _ _ _ _ _) ?_; intro w2 hr2 hs2)
              | (have hz := HG; clear hz; refine wpList_store_Row rfl 73 _ _ rfl (w.heap.size + 1) 73 0 _ [.int .i64 5, .int .i64 (p : Int)] (HG.out.wrg.but hs2 (by omega)) (Nat.le_refl _) rfl rfl (by kernel_rfl) (by simp [Value.oneCell']) ?_; intro w3 hr3 hs3))
            have q2 := (row_whole hr2 (by simp)).but hs3 (by omega)
            have q3 := row_whole hr3 (by simp)
            refine bodyPost_ret_by (results_rowrow Tryz.results24 _ w3 w.heap.size 28 (w.heap.size + 1) 73 _ _ _ _ rfl q2 Tryz.underlying28 rfl (by kernel_rfl) rfl q3 Tryz.underlying73 rfl (by kernel_rfl)) rfl ?_
            exact GetP.bad (hs3.below (hs2.below HG.out.bel (Nat.le_refl _)) (by omega)) HX.out
          | true =>
            have HCS : Hid (csT b (p + 26) (k7 - (i + 1)) (LC ++ [cvAt (b.drop p)]) k7 p0) := s2 rfl
            rw [HD.out] at HCS HOK
            clear s1 s2
            have FMX := FM2.out W
            have HLL : Hid (LC.length ≤ 32) := by show _ ≤ _; have := HNX.out; have := HKK.out; omega
            go_wp2_with (first
              | (have hz := rX; clear hz; refine wpList_load_Row rfl 50 (.tmp 9) rfl gx 50 _ rX rfl _ Tryz.underlying50 rfl (by kernel_rfl) ?_; clear rX)
              | (go_at_call 37; refine FMX.mono ?_; clear FMX; rintro e w4 ⟨rfl, hb4⟩; have HW4 : Hid (GW w b g k ID io ic LC lo lc (List.replicate 32 0) w4) := HW2.out.keep hb4; have rX4 := RX.out w4 hb4; have c24 := cv_fresh HW4.out
                 obtain ⟨w5, hw5⟩ : ∃ w5, w5 = w4.alloc (.cells #[.int .i64 (k0 : Int), .int .i64 (k1 : Int), .int .i64 Y2, .int .i64 Y10, .int .u64 (X18 : Int)] 50) := ⟨_, rfl⟩
                 have HW5 : Hid (GW w b g k ID io ic LC lo lc (List.replicate 32 0) w5 ∧ Row w5 w4.heap.size 50 [.int .i64 (k0 : Int), .int .i64 (k1 : Int), .int .i64 Y2, .int .i64 Y10, .int .u64 (X18 : Int)]) := (by rw [hw5]; exact ⟨HW4.out.keep ((Below.refl _ _).alloc (Nat.le_refl _) _), Row.at w4 _ _ _ _ rfl rfl⟩)
                 clear hb4 HW2 FM2 HW4)
              | (have hz := rX4; clear hz; refine wpList_load_Row rfl 50 (.tmp 9) rfl gx 50 _ rX4 rfl _ Tryz.underlying50 rfl (by kernel_rfl) ?_; clear rX4)
              | (rw [← hw5]; clear hw5)
              | (at_builtin; have hz := HW5; clear hz; refine wpList_append_where el_cavs24 rfl (.tmp 110) (.tmp 112) rfl (w.heap.size + 2) w5 lo LC.length lc (LC.flatMap cvC) rfl HW5.out.1.cav HW5.out.1.id.2 (Below.refl _ _) w4.heap.size 0 1 1 _ rfl rfl (fun j u hu => (by rw [Nat.zero_add]; exact HW5.out.2.cell j u hu)) (by omega) CO.out (by have := HLL.out; unfold maxLen; omega) (by have := HLL.out; omega) ?_
                 intro lo6 lc6 w6 g1 g2 g3 g4 g5
                 have t6 := HW5.out.1.still g4 HW5.out.1.t (by decide)
                 have c26 := t6.cell 2 _ rfl
                 have f26 : w6.frozen? ⟨g, 2, none⟩ = false := t6.frozen 2
                 have HN : Hid (GW w b g k ID io ic (LC ++ [⟨k0, k1, Y2, Y10, X18⟩]) lo6 lc6 (List.replicate 32 0) (w6.setCell ⟨g, 2, none⟩ (.slice lo6 (LC.length + 1) lc6))) := HW5.out.1.push ⟨k0, k1, Y2, Y10, X18⟩ HOK.out rfl g1 g3 g2 g4
                 clear g1 g2 g3 g4 g5 t6 HW5 c24))
            have h9 := HNX.out
            exact ⟨⟨i + 1, p + 26, LC ++ [⟨k0, k1, Y2, Y10, X18⟩], lo6, lc6, by omega, by push_cast; rfl, by go_num, ⟨by omega, by rw [List.length_append, h9.2.2]; rfl, HCS.out⟩, HN⟩, by simp [intOf]; omega⟩
    · obtain rfl : i = k7 := by omega
      have y1 : ¬ ((i : Nat) : Int) < (i : Int) := by omega
      have HCS : Hid (csR b p0 i = .ok LC) := by
        have := HI.out.2.2
        rw [Nat.sub_self] at this
        exact csT_done this
      have HPP : Hid (p = p0 + 26 * i) := HI.out.1
      clear HI HGS
      go_wp2
      refine HKS.out _ _ ?_
      exact NXT.out _ _ _ _ _ _ _ _ _ _ _ _ _ _ _ _ _ _ _ _ _ _ _ _ _ _ _ _ _ _ _ _ _ _ _ _ _ _ _ _ _ _ _ _ _ _ _ _ _ _ _ _ _ _ _ _ _ _ _ _ _ _ _ _ _ _ _ _ _ _ _ _ _ _ _ _ _ _ _ _ _ _ _ _ _ _ _ _ _ _ _ _ _ _ _ _ _ _ _ _ _ _ _ _ _ _ _ _ _ _ _ _ _ _ _ _ _ _ _ _ _ _ _ _ _ _ _ _ _ _ _ _ _ _ _ _ _ _ _ _ _ _ _ _ _ _ p LC lo lc HW.out HPP.out HCS.out
end Go.Proofs.YtjooabgjkjnhhaaGreatDoor
