
import Derived.Test.YtgpnbiaghokjkaaDoorD21PaM
/-! Layer 21, the document's answer: Parse. (Printed by tools/gend21.py.) -/
namespace Go.Proofs.YtgpnbiaghokjkaaDoor
open Go.RowKit
set_option linter.unusedVariables false
set_option linter.unusedSimpArgs false
set_option maxRecDepth 100000

/-- What the loop over the pages has left: what is told then. -/
def PLeft (C NP : Nat) (T : List By) (gs0 : List (List (List By))) (es0 : List Int) (p b m : Nat) (PGR : Except Nat (List (List (List By)) × List Int × List By × Nat)) : Prop :=
  PGR = match pagesP C (NP - p) p (T.drop b) m with | .error k => .error k | .ok (gs, es, r, l) => .ok (gs0 ++ gs, es0 ++ es, r, l)
section
variable {C NP : Nat} {T : List By} {gs0 : List (List (List By))} {es0 : List Int} {p b m : Nat} {PGR : Except Nat (List (List (List By)) × List Int × List By × Nat)}
theorem PLeft.zero (C NP : Nat) (T : List By) (b m : Nat) : PLeft C NP T [] [] 0 b m (pagesP C NP 0 (T.drop b) m) := by
  unfold PLeft
  rw [Nat.sub_zero]
  cases pagesP C NP 0 (T.drop b) m with
  | error k => rfl
  | ok q => obtain ⟨a, b', c, d⟩ := q; rfl
theorem PLeft.bad (h : PLeft C NP T gs0 es0 p b m PGR) (hp : p < NP) {k : Nat} (hk : pageP C p (T.drop b) m = .error k) : PGR = .error k := by
  unfold PLeft at h
  rw [h, show NP - p = (NP - (p + 1)) + 1 by omega, pagesP, hk]
theorem PLeft.step (h : PLeft C NP T gs0 es0 p b m PGR) (hp : p < NP) {g : List (List By)} {e b' m' : Nat} (hk : pageP C p (T.drop b) m = .ok (g, e, T.drop b', m')) : PLeft C NP T (gs0 ++ [g]) (es0 ++ [(e : Int)]) (p + 1) b' m' PGR := by
  unfold PLeft at h ⊢
  rw [h, show NP - p = (NP - (p + 1)) + 1 by omega, pagesP, hk]
  dsimp only
  cases pagesP C (NP - (p + 1)) (p + 1) (T.drop b') m' with
  | error k => rfl
  | ok q => obtain ⟨a, b', c, d⟩ := q; simp [List.append_assoc]
theorem PLeft.done (h : PLeft C NP T gs0 es0 NP b m PGR) : PGR = .ok (gs0, es0, T.drop b, m) := by
  unfold PLeft at h
  rw [h, Nat.sub_self, pagesP]
  simp
end

/-- parseL, way by way. -/
theorem parse_e1 {T : List By} (h : lineOf (T.drop 0) = none) : parseL T = .error (5, 1) := by
  rw [List.drop_zero] at h
  unfold parseL; rw [h]
theorem parse_e2 {T l r : List By} (h : lineOf (T.drop 0) = some (l, r)) (h1 : values? l wChip = none) : parseL T = .error (5, 1) := by
  rw [List.drop_zero] at h
  unfold parseL; rw [h]; simp only [h1]; rfl
theorem parse_e3 {T l r : List By} {L : List Nat} (h : lineOf (T.drop 0) = some (l, r)) (h1 : values? l wChip = some L) (h7 : ¬ L.length = 7) : parseL T = .error (5, 1) := by
  rw [List.drop_zero] at h
  unfold parseL; rw [h]; simp only [h1, Option.bind_some]
  have : cfgOf L = none := by
    match L, h7 with
    | [], _ => rfl
    | [_], _ => rfl
    | [_, _], _ => rfl
    | [_, _, _], _ => rfl
    | [_, _, _, _], _ => rfl
    | [_, _, _, _, _], _ => rfl
    | [_, _, _, _, _, _], _ => rfl
    | [_, _, _, _, _, _, _], h => exact absurd rfl h
    | _ :: _ :: _ :: _ :: _ :: _ :: _ :: _ :: _, _ => rfl
  rw [this]
theorem parse_c {T l r : List By} {n0 n1 n2 n3 n4 n5 n6 : Nat} (h : lineOf (T.drop 0) = some (l, r)) (h1 : values? l wChip = some [n0, n1, n2, n3, n4, n5, n6]) : parseL T =
      if (⟨n0, n1, n2, n3, n4, n5, n6⟩ : Cfg).may = 0 then
        match lineOf r with
        | none => .error (5, 2)
        | some (l2, r2) =>
          match blown? ((n1 : Int) * n2 + n4).toNat l2 with
          | none => .error (5, 2)
          | some bl =>
            match pagesP n0 (2 + 2 * (n6 : Int)).toNat 0 r2 2 with
            | .error k => .error (5, k)
            | .ok (gs, es, r3, ln) => if r3 = [] then .ok (⟨n0, n1, n2, n3, n4, n5, n6⟩, ⟨gs, es, bl⟩) else .error (5, ln + 1)
      else .error (1, 1) := by
  rw [List.drop_zero] at h
  unfold parseL; rw [h]; simp only [h1, Option.bind_some]; rfl
theorem may_ne {c : Cfg} (h : ¬ c.may = 0) : c.may = 1 := by
  unfold Cfg.may at h ⊢
  split
  · rename_i h1; rw [if_pos h1] at h; exact absurd rfl h
  · rfl

structure Pa7 (W1 : World) (gl lc D n0 n1 n2 n3 n4 n5 n6 : Nat) (L : Nat → Bool) (x45 x46 x47 x48 x49 x50 x51 x52 x53 x54 x55 x56 x57 x58 x59 x60 x61 x62 x63 x64 x65 x66 x12 : Value) (W : World) : Prop where
  x : CS W1 D [.int .i64 (n0 : Int), .int .i64 (n1 : Int), .int .i64 (n2 : Int), .int .i64 (n3 : Int), .int .i64 (n4 : Int), .int .i64 (n5 : Int), .int .i64 (n6 : Int)] (L 22) (L 23) W
  p0 : L 0 = true → x45 = .slice (some ⟨gl, 0, none⟩) 7 lc
  p1 : L 1 = true → x46 = .pointer (some ⟨gl, 0, none⟩)
  p2 : L 2 = true → x47 = .int .i64 (n0 : Int)
  p3 : L 3 = true → x48 = .slice (some ⟨gl, 0, none⟩) 7 lc
  p4 : L 4 = true → x49 = .pointer (some ⟨gl, 1, none⟩)
  p5 : L 5 = true → x50 = .int .i64 (n1 : Int)
  p6 : L 6 = true → x51 = .slice (some ⟨gl, 0, none⟩) 7 lc
  p7 : L 7 = true → x52 = .pointer (some ⟨gl, 2, none⟩)
  p8 : L 8 = true → x53 = .int .i64 (n2 : Int)
  p9 : L 9 = true → x54 = .slice (some ⟨gl, 0, none⟩) 7 lc
  p10 : L 10 = true → x55 = .pointer (some ⟨gl, 3, none⟩)
  p11 : L 11 = true → x56 = .int .i64 (n3 : Int)
  p12 : L 12 = true → x57 = .slice (some ⟨gl, 0, none⟩) 7 lc
  p13 : L 13 = true → x58 = .pointer (some ⟨gl, 4, none⟩)
  p14 : L 14 = true → x59 = .int .i64 (n4 : Int)
  p15 : L 15 = true → x60 = .slice (some ⟨gl, 0, none⟩) 7 lc
  p16 : L 16 = true → x61 = .pointer (some ⟨gl, 5, none⟩)
  p17 : L 17 = true → x62 = .int .i64 (n5 : Int)
  p18 : L 18 = true → x63 = .slice (some ⟨gl, 0, none⟩) 7 lc
  p19 : L 19 = true → x64 = .pointer (some ⟨gl, 6, none⟩)
  p20 : L 20 = true → x65 = .int .i64 (n6 : Int)
  p21 : L 21 = true → x66 = .agg #[.int .i64 (n0 : Int), .int .i64 (n1 : Int), .int .i64 (n2 : Int), .int .i64 (n3 : Int), .int .i64 (n4 : Int), .int .i64 (n5 : Int), .int .i64 (n6 : Int)]
  p22 : L 22 = true → x12 = .pointer (some ⟨D, 0, none⟩)
section
variable {W1 : World} {gl lc D n0 n1 n2 n3 n4 n5 n6 : Nat} {L : Nat → Bool} {x45 x46 x47 x48 x49 x50 x51 x52 x53 x54 x55 x56 x57 x58 x59 x60 x61 x62 x63 x64 x65 x66 x12 : Value} {W W2 : World}
end
@[reducible] def IPa7 (W1 : World) (gl lc D n0 n1 n2 n3 n4 n5 n6 : Nat) (y0 y1 y2 y3 y4 y5 y6 y7 y8 y9 y10 y11 y13 y14 y15 y16 y17 y18 y19 y20 y21 y22 y23 y24 y25 y26 y27 y28 y29 y30 y31 y32 y33 y34 y35 y36 y37 y38 y39 y40 y41 y42 y43 y44 y67 y68 y69 y70 y71 y72 y73 y74 y75 y76 y77 y78 y79 y80 y81 y82 y83 y84 y85 y86 y87 y88 y89 y90 y91 y92 y93 y94 y95 y96 y97 y98 y99 y100 y101 y102 y103 y104 y105 y106 y107 y108 y109 y110 y111 y112 y113 y114 y115 y116 y117 y118 y119 y120 y121 y122 y123 y124 y125 y126 y127 y128 y129 y130 y131 y132 y133 y134 y135 y136 y137 y138 y139 y140 y141 y142 : Value) : (Nat → Bool) → Act → World → Prop := fun L a W => ∃ x45 x46 x47 x48 x49 x50 x51 x52 x53 x54 x55 x56 x57 x58 x59 x60 x61 x62 x63 x64 x65 x66 x12, a = ⟨#[y0, y1, y2, y3, y4, y5, y6, y7, y8, y9, y10, y11, x12, y13, y14, y15, y16, y17, y18, y19, y20, y21, y22, y23, y24, y25, y26, y27, y28, y29, y30, y31, y32, y33, y34, y35, y36, y37, y38, y39, y40, y41, y42, y43, y44, x45, x46, x47, x48, x49, x50, x51, x52, x53, x54, x55, x56, x57, x58, x59, x60, x61, x62, x63, x64, x65, x66, y67, y68, y69, y70, y71, y72, y73, y74, y75, y76, y77, y78, y79, y80, y81, y82, y83, y84, y85, y86, y87, y88, y89, y90, y91, y92, y93, y94, y95, y96, y97, y98, y99, y100, y101, y102, y103, y104, y105, y106, y107, y108, y109, y110, y111, y112, y113, y114, y115, y116, y117, y118, y119, y120, y121, y122, y123, y124, y125, y126, y127, y128, y129, y130, y131, y132, y133, y134, y135, y136, y137, y138, y139, y140, y141, y142], []⟩ ∧ Pa7 W1 gl lc D n0 n1 n2 n3 n4 n5 n6 L x45 x46 x47 x48 x49 x50 x51 x52 x53 x54 x55 x56 x57 x58 x59 x60 x61 x62 x63 x64 x65 x66 x12 W
theorem Pa7.step {W1 : World} {gl lc D n0 n1 n2 n3 n4 n5 n6 : Nat} {y0 y1 y2 y3 y4 y5 y6 y7 y8 y9 y10 y11 y13 y14 y15 y16 y17 y18 y19 y20 y21 y22 y23 y24 y25 y26 y27 y28 y29 y30 y31 y32 y33 y34 y35 y36 y37 y38 y39 y40 y41 y42 y43 y44 y67 y68 y69 y70 y71 y72 y73 y74 y75 y76 y77 y78 y79 y80 y81 y82 y83 y84 y85 y86 y87 y88 y89 y90 y91 y92 y93 y94 y95 y96 y97 y98 y99 y100 y101 y102 y103 y104 y105 y106 y107 y108 y109 y110 y111 y112 y113 y114 y115 y116 y117 y118 y119 y120 y121 y122 y123 y124 y125 y126 y127 y128 y129 y130 y131 y132 y133 y134 y135 y136 y137 y138 y139 y140 y141 y142 : Value} {P : Program} {ops : Array Oper} {Q : Exit → Act → World → Prop} {i : Nat} {o : Oper} (hq : ∀ x45 x46 x47 x48 x49 x50 x51 x52 x53 x54 x55 x56 x57 x58 x59 x60 x61 x62 x63 x64 x65 x66 x12 (L : Nat → Bool) (W : World), Pa7 W1 gl lc D n0 n1 n2 n3 n4 n5 n6 L x45 x46 x47 x48 x49 x50 x51 x52 x53 x54 x55 x56 x57 x58 x59 x60 x61 x62 x63 x64 x65 x66 x12 W → L i = false → (∀ j ∈ onesOf o, L j = true) → ∀ K : Act → World → Prop, Shut (∀ a' w', IPa7 W1 gl lc D n0 n1 n2 n3 n4 n5 n6 y0 y1 y2 y3 y4 y5 y6 y7 y8 y9 y10 y11 y13 y14 y15 y16 y17 y18 y19 y20 y21 y22 y23 y24 y25 y26 y27 y28 y29 y30 y31 y32 y33 y34 y35 y36 y37 y38 y39 y40 y41 y42 y43 y44 y67 y68 y69 y70 y71 y72 y73 y74 y75 y76 y77 y78 y79 y80 y81 y82 y83 y84 y85 y86 y87 y88 y89 y90 y91 y92 y93 y94 y95 y96 y97 y98 y99 y100 y101 y102 y103 y104 y105 y106 y107 y108 y109 y110 y111 y112 y113 y114 y115 y116 y117 y118 y119 y120 y121 y122 y123 y124 y125 y126 y127 y128 y129 y130 y131 y132 y133 y134 y135 y136 y137 y138 y139 y140 y141 y142 (upd L i) a' w' → K a' w') → if Region.wanted o (yielded ops (⟨#[y0, y1, y2, y3, y4, y5, y6, y7, y8, y9, y10, y11, x12, y13, y14, y15, y16, y17, y18, y19, y20, y21, y22, y23, y24, y25, y26, y27, y28, y29, y30, y31, y32, y33, y34, y35, y36, y37, y38, y39, y40, y41, y42, y43, y44, x45, x46, x47, x48, x49, x50, x51, x52, x53, x54, x55, x56, x57, x58, x59, x60, x61, x62, x63, x64, x65, x66, y67, y68, y69, y70, y71, y72, y73, y74, y75, y76, y77, y78, y79, y80, y81, y82, y83, y84, y85, y86, y87, y88, y89, y90, y91, y92, y93, y94, y95, y96, y97, y98, y99, y100, y101, y102, y103, y104, y105, y106, y107, y108, y109, y110, y111, y112, y113, y114, y115, y116, y117, y118, y119, y120, y121, y122, y123, y124, y125, y126, y127, y128, y129, y130, y131, y132, y133, y134, y135, y136, y137, y138, y139, y140, y141, y142], []⟩ : Act).tmps) = true then Oper.wp P o ⟨#[y0, y1, y2, y3, y4, y5, y6, y7, y8, y9, y10, y11, x12, y13, y14, y15, y16, y17, y18, y19, y20, y21, y22, y23, y24, y25, y26, y27, y28, y29, y30, y31, y32, y33, y34, y35, y36, y37, y38, y39, y40, y41, y42, y43, y44, x45, x46, x47, x48, x49, x50, x51, x52, x53, x54, x55, x56, x57, x58, x59, x60, x61, x62, x63, x64, x65, x66, y67, y68, y69, y70, y71, y72, y73, y74, y75, y76, y77, y78, y79, y80, y81, y82, y83, y84, y85, y86, y87, y88, y89, y90, y91, y92, y93, y94, y95, y96, y97, y98, y99, y100, y101, y102, y103, y104, y105, y106, y107, y108, y109, y110, y111, y112, y113, y114, y115, y116, y117, y118, y119, y120, y121, y122, y123, y124, y125, y126, y127, y128, y129, y130, y131, y132, y133, y134, y135, y136, y137, y138, y139, y140, y141, y142], []⟩ W K Q else K ((⟨#[y0, y1, y2, y3, y4, y5, y6, y7, y8, y9, y10, y11, x12, y13, y14, y15, y16, y17, y18, y19, y20, y21, y22, y23, y24, y25, y26, y27, y28, y29, y30, y31, y32, y33, y34, y35, y36, y37, y38, y39, y40, y41, y42, y43, y44, x45, x46, x47, x48, x49, x50, x51, x52, x53, x54, x55, x56, x57, x58, x59, x60, x61, x62, x63, x64, x65, x66, y67, y68, y69, y70, y71, y72, y73, y74, y75, y76, y77, y78, y79, y80, y81, y82, y83, y84, y85, y86, y87, y88, y89, y90, y91, y92, y93, y94, y95, y96, y97, y98, y99, y100, y101, y102, y103, y104, y105, y106, y107, y108, y109, y110, y111, y112, y113, y114, y115, y116, y117, y118, y119, y120, y121, y122, y123, y124, y125, y126, y127, y128, y129, y130, y131, y132, y133, y134, y135, y136, y137, y138, y139, y140, y141, y142], []⟩ : Act).put o.dst undef) W) : StepI P ops (IPa7 W1 gl lc D n0 n1 n2 n3 n4 n5 n6 y0 y1 y2 y3 y4 y5 y6 y7 y8 y9 y10 y11 y13 y14 y15 y16 y17 y18 y19 y20 y21 y22 y23 y24 y25 y26 y27 y28 y29 y30 y31 y32 y33 y34 y35 y36 y37 y38 y39 y40 y41 y42 y43 y44 y67 y68 y69 y70 y71 y72 y73 y74 y75 y76 y77 y78 y79 y80 y81 y82 y83 y84 y85 y86 y87 y88 y89 y90 y91 y92 y93 y94 y95 y96 y97 y98 y99 y100 y101 y102 y103 y104 y105 y106 y107 y108 y109 y110 y111 y112 y113 y114 y115 y116 y117 y118 y119 y120 y121 y122 y123 y124 y125 y126 y127 y128 y129 y130 y131 y132 y133 y134 y135 y136 y137 y138 y139 y140 y141 y142) Q i o := by
  rintro L a W ⟨x45, x46, x47, x48, x49, x50, x51, x52, x53, x54, x55, x56, x57, x58, x59, x60, x61, x62, x63, x64, x65, x66, x12, rfl, h⟩
  exact hq _ _ _ _ _ _ _ _ _ _ _ _ _ _ _ _ _ _ _ _ _ _ _ _ _ h
structure Pa20 (W1 : World) (S k : Nat) (C7 : List Value) (L : Nat → Bool) (x109 x110 x111 x112 x113 x114 x4 x5 : Value) (W : World) : Prop where
  x : ES W1 S C7 [nilS, nilS, nilS] (L 6) (L 7) W
  p0 : L 0 = true → x109 = .agg C7.toArray
  p1 : L 1 = true → x110 = .agg #[.slice none 0 0, .slice none 0 0, .slice none 0 0]
  p2 : L 2 = true → x111 = .pointer (some ⟨S + 1 + 1, 0, none⟩)
  p3 : L 3 = true → x112 = .pointer (some ⟨S + 1 + 1, 0, none⟩)
  p4 : L 4 = true → x113 = .pointer (some ⟨S + 1 + 1, 2, none⟩)
  p5 : L 5 = true → x114 = .int .i64 (k : Int)
  p8 : L 8 = true → x4 = .int .i64 5
  p9 : L 9 = true → x5 = .int .i64 (k : Int)
section
variable {W1 : World} {S k : Nat} {C7 : List Value} {L : Nat → Bool} {x109 x110 x111 x112 x113 x114 x4 x5 : Value} {W W2 : World}
end
@[reducible] def IPa20 (W1 : World) (S k : Nat) (C7 : List Value) (y0 y1 y2 y3 y6 y7 y8 y9 y10 y11 y12 y13 y14 y15 y16 y17 y18 y19 y20 y21 y22 y23 y24 y25 y26 y27 y28 y29 y30 y31 y32 y33 y34 y35 y36 y37 y38 y39 y40 y41 y42 y43 y44 y45 y46 y47 y48 y49 y50 y51 y52 y53 y54 y55 y56 y57 y58 y59 y60 y61 y62 y63 y64 y65 y66 y67 y68 y69 y70 y71 y72 y73 y74 y75 y76 y77 y78 y79 y80 y81 y82 y83 y84 y85 y86 y87 y88 y89 y90 y91 y92 y93 y94 y95 y96 y97 y98 y99 y100 y101 y102 y103 y104 y105 y106 y107 y108 y115 y116 y117 y118 y119 y120 y121 y122 y123 y124 y125 y126 y127 y128 y129 y130 y131 y132 y133 y134 y135 y136 y137 y138 y139 y140 y141 y142 : Value) : (Nat → Bool) → Act → World → Prop := fun L a W => ∃ x109 x110 x111 x112 x113 x114 x4 x5, a = ⟨#[y0, y1, y2, y3, x4, x5, y6, y7, y8, y9, y10, y11, y12, y13, y14, y15, y16, y17, y18, y19, y20, y21, y22, y23, y24, y25, y26, y27, y28, y29, y30, y31, y32, y33, y34, y35, y36, y37, y38, y39, y40, y41, y42, y43, y44, y45, y46, y47, y48, y49, y50, y51, y52, y53, y54, y55, y56, y57, y58, y59, y60, y61, y62, y63, y64, y65, y66, y67, y68, y69, y70, y71, y72, y73, y74, y75, y76, y77, y78, y79, y80, y81, y82, y83, y84, y85, y86, y87, y88, y89, y90, y91, y92, y93, y94, y95, y96, y97, y98, y99, y100, y101, y102, y103, y104, y105, y106, y107, y108, x109, x110, x111, x112, x113, x114, y115, y116, y117, y118, y119, y120, y121, y122, y123, y124, y125, y126, y127, y128, y129, y130, y131, y132, y133, y134, y135, y136, y137, y138, y139, y140, y141, y142], []⟩ ∧ Pa20 W1 S k C7 L x109 x110 x111 x112 x113 x114 x4 x5 W
structure Pa24 (W1 : World) (S k : Nat) (C7 : List Value) (L : Nat → Bool) (x134 x135 x136 x137 x138 x139 x140 x4 x5 : Value) (W : World) : Prop where
  x : ES W1 S C7 [nilS, nilS, nilS] (L 7) (L 8) W
  p0 : L 0 = true → x134 = .agg C7.toArray
  p1 : L 1 = true → x135 = .agg #[.slice none 0 0, .slice none 0 0, .slice none 0 0]
  p2 : L 2 = true → x136 = .pointer (some ⟨S + 1 + 1, 0, none⟩)
  p3 : L 3 = true → x137 = .pointer (some ⟨S + 1 + 1, 0, none⟩)
  p4 : L 4 = true → x138 = .pointer (some ⟨S + 1 + 1, 2, none⟩)
  p5 : L 5 = true → x139 = .int .i64 (k : Int)
  p6 : L 6 = true → x140 = .int .i64 ((k + 1 : Nat) : Int)
  p9 : L 9 = true → x4 = .int .i64 5
  p10 : L 10 = true → x5 = .int .i64 ((k + 1 : Nat) : Int)
section
variable {W1 : World} {S k : Nat} {C7 : List Value} {L : Nat → Bool} {x134 x135 x136 x137 x138 x139 x140 x4 x5 : Value} {W W2 : World}
end
@[reducible] def IPa24 (W1 : World) (S k : Nat) (C7 : List Value) (y0 y1 y2 y3 y6 y7 y8 y9 y10 y11 y12 y13 y14 y15 y16 y17 y18 y19 y20 y21 y22 y23 y24 y25 y26 y27 y28 y29 y30 y31 y32 y33 y34 y35 y36 y37 y38 y39 y40 y41 y42 y43 y44 y45 y46 y47 y48 y49 y50 y51 y52 y53 y54 y55 y56 y57 y58 y59 y60 y61 y62 y63 y64 y65 y66 y67 y68 y69 y70 y71 y72 y73 y74 y75 y76 y77 y78 y79 y80 y81 y82 y83 y84 y85 y86 y87 y88 y89 y90 y91 y92 y93 y94 y95 y96 y97 y98 y99 y100 y101 y102 y103 y104 y105 y106 y107 y108 y109 y110 y111 y112 y113 y114 y115 y116 y117 y118 y119 y120 y121 y122 y123 y124 y125 y126 y127 y128 y129 y130 y131 y132 y133 y141 y142 : Value) : (Nat → Bool) → Act → World → Prop := fun L a W => ∃ x134 x135 x136 x137 x138 x139 x140 x4 x5, a = ⟨#[y0, y1, y2, y3, x4, x5, y6, y7, y8, y9, y10, y11, y12, y13, y14, y15, y16, y17, y18, y19, y20, y21, y22, y23, y24, y25, y26, y27, y28, y29, y30, y31, y32, y33, y34, y35, y36, y37, y38, y39, y40, y41, y42, y43, y44, y45, y46, y47, y48, y49, y50, y51, y52, y53, y54, y55, y56, y57, y58, y59, y60, y61, y62, y63, y64, y65, y66, y67, y68, y69, y70, y71, y72, y73, y74, y75, y76, y77, y78, y79, y80, y81, y82, y83, y84, y85, y86, y87, y88, y89, y90, y91, y92, y93, y94, y95, y96, y97, y98, y99, y100, y101, y102, y103, y104, y105, y106, y107, y108, y109, y110, y111, y112, y113, y114, y115, y116, y117, y118, y119, y120, y121, y122, y123, y124, y125, y126, y127, y128, y129, y130, y131, y132, y133, x134, x135, x136, x137, x138, x139, x140, y141, y142], []⟩ ∧ Pa24 W1 S k C7 L x134 x135 x136 x137 x138 x139 x140 x4 x5 W
structure Pa25 (W1 : World) (S : Nat) (CV XS : List Value) (L : Nat → Bool) (x141 x142 x4 x5 : Value) (W : World) : Prop where
  x : ES W1 S CV XS (L 2) (L 3) W
  p0 : L 0 = true → x141 = .agg CV.toArray
  p1 : L 1 = true → x142 = .agg XS.toArray
  p4 : L 4 = true → x4 = .int .i64 0
  p5 : L 5 = true → x5 = .int .i64 0
section
variable {W1 : World} {S : Nat} {CV XS : List Value} {L : Nat → Bool} {x141 x142 x4 x5 : Value} {W W2 : World}
end
@[reducible] def IPa25 (W1 : World) (S : Nat) (CV XS : List Value) (y0 y1 y2 y3 y6 y7 y8 y9 y10 y11 y12 y13 y14 y15 y16 y17 y18 y19 y20 y21 y22 y23 y24 y25 y26 y27 y28 y29 y30 y31 y32 y33 y34 y35 y36 y37 y38 y39 y40 y41 y42 y43 y44 y45 y46 y47 y48 y49 y50 y51 y52 y53 y54 y55 y56 y57 y58 y59 y60 y61 y62 y63 y64 y65 y66 y67 y68 y69 y70 y71 y72 y73 y74 y75 y76 y77 y78 y79 y80 y81 y82 y83 y84 y85 y86 y87 y88 y89 y90 y91 y92 y93 y94 y95 y96 y97 y98 y99 y100 y101 y102 y103 y104 y105 y106 y107 y108 y109 y110 y111 y112 y113 y114 y115 y116 y117 y118 y119 y120 y121 y122 y123 y124 y125 y126 y127 y128 y129 y130 y131 y132 y133 y134 y135 y136 y137 y138 y139 y140 : Value) : (Nat → Bool) → Act → World → Prop := fun L a W => ∃ x141 x142 x4 x5, a = ⟨#[y0, y1, y2, y3, x4, x5, y6, y7, y8, y9, y10, y11, y12, y13, y14, y15, y16, y17, y18, y19, y20, y21, y22, y23, y24, y25, y26, y27, y28, y29, y30, y31, y32, y33, y34, y35, y36, y37, y38, y39, y40, y41, y42, y43, y44, y45, y46, y47, y48, y49, y50, y51, y52, y53, y54, y55, y56, y57, y58, y59, y60, y61, y62, y63, y64, y65, y66, y67, y68, y69, y70, y71, y72, y73, y74, y75, y76, y77, y78, y79, y80, y81, y82, y83, y84, y85, y86, y87, y88, y89, y90, y91, y92, y93, y94, y95, y96, y97, y98, y99, y100, y101, y102, y103, y104, y105, y106, y107, y108, y109, y110, y111, y112, y113, y114, y115, y116, y117, y118, y119, y120, y121, y122, y123, y124, y125, y126, y127, y128, y129, y130, y131, y132, y133, y134, y135, y136, y137, y138, y139, y140, x141, x142], []⟩ ∧ Pa25 W1 S CV XS L x141 x142 x4 x5 W
set_option maxHeartbeats 32000000 in
theorem r21parse_any (T : List By) (hT : T.length ≤ 2000000) (w : World) :
    Calls Tryd.prog 13 #[.string (strOf T)] w (ParP T w) := by
  have HNX : Hid (∀ (W : World) (g b m : Nat), Row W g 65 (rdC T b m) → b ≤ T.length → m ≤ 4611686018427387904 → Calls Tryd.prog 29 #[.pointer (some ⟨g, 0, none⟩)] W (NextP g T b m W)) := fun W g b m h1 h2 h3 => r21next_any g T b m W h1 h2 (by omega) h3
  have HVS : Hid (∀ (W : World) (l : List By), l.length ≤ 2000000 → Calls Tryd.prog 30 #[.string (strOf l), .string { data := #[99, 104, 105, 112] }] W (ValP W.heap.size W l wChip)) := fun W l h1 => r21values_any l wChip h1 W
  have HVN : Hid (values? [] wChip = none) := by show _ = _; decide
  have ST : ∀ W : World, (Builtin.len_ #[9] 3 #[.string (strOf T)]).run Tryd.prog W = .ok (goInt T.length) W := fun W => str_len T 3 W
  obtain ⟨SS, hSS⟩ : ∃ SS, strOf T = SS := ⟨_, rfl⟩
  have HRD : Hid (∀ a ln : Nat, rdC T a ln = [.string SS, .int .i64 (a : Int), .int .i64 (ln : Int)]) := fun a ln => by show _ = _; rw [← hSS]; rfl
  rw [hSS]
  simp only [hSS] at ST
  clear hSS
  go_enter Tryd.func13, Tryd.ntmps13
  go_wp2_with fail
  generalize hW1 : (((w.alloc (.cells #[.int .i64 0, .int .i64 0, .int .i64 0, .int .i64 0, .int .i64 0, .int .i64 0, .int .i64 0] 24)).alloc (.cells #[.slice none 0 0, .slice none 0 0, .slice none 0 0] 29)).alloc (.cells #[.string SS, .int .i64 0, .int .i64 0] 65)).alloc (.cells #[.int .i64 0, .int .i64 0, .int .i64 0, .int .i64 0, .int .i64 0, .int .i64 0, .int .i64 0] 24) = W1
  have HR2 : Hid (Row W1 w.heap.size 24 cfg0.vals) := by rw [← hW1]; exact (((Row.at _ _ _ _ _ rfl rfl).alloc _).alloc _).alloc _
  have HR3 : Hid (Row W1 (w.heap.size + 1) 29 [nilS, nilS, nilS]) := by rw [← hW1]; exact ((Row.at _ _ _ _ _ (by simp) rfl).alloc _).alloc _
  have HR6 : Hid (Row W1 (w.heap.size + 1 + 1) 65 (rdC T 0 0)) := by rw [← hW1, HRD.out]; exact (Row.at _ _ _ _ _ (by simp) rfl).alloc _
  have HR7 : Hid (Row W1 (w.heap.size + 1 + 1 + 1) 24 cfg0.vals) := by rw [← hW1]; exact Row.at _ _ _ _ _ (by simp) rfl
  have HB1 : Hid (Below w.heap.size w W1) := by rw [← hW1]; exact ((((Below.refl _ _).alloc (Nat.le_refl _) _).alloc (by simp) _).alloc (by simp; omega) _).alloc (by simp; omega) _
  have HZ1 : Hid (W1.heap.size = w.heap.size + 4) := by rw [← hW1]; show _ = _; simp
  clear hW1
  generalize hS : w.heap.size = S at *
  have HSZ : Hid (w.heap.size = S) := hS
  clear hS
  refine (HNX.out _ _ 0 0 HR6.out (by omega) (by omega)).mono ?_
  rintro e w2 (⟨l, a1, hl, ha1, haa, rfl, hr6, hk2⟩ | ⟨hl, rfl, hr6, hk2⟩)
  · have HL : Hid (lineOf (T.drop 0) = some (l, T.drop a1)) := hl
    have HLL : Hid (l.length ≤ 2000000) := by have := line_le hl; show _ ≤ _; omega
    have HR2b : Hid (Row w2 S 24 cfg0.vals) := hk2.row HR2.out (by simp; omega)
    have HR3b : Hid (Row w2 (S + 1) 29 [nilS, nilS, nilS]) := hk2.row HR3.out (by simp)
    have HR6b : Hid (Row w2 (S + 1 + 1) 65 (rdC T a1 1)) := hr6
    have HR7b : Hid (Row w2 (S + 1 + 1 + 1) 24 cfg0.vals) := hk2.row HR7.out (by simp)
    have HB2 : Hid (Below S w w2) := below_keptL HB1.out hk2 (fun b hb => by rw [List.mem_singleton.1 hb]; omega) (by have := HZ1.out; omega)
    have HZ2 : Hid (S + 4 ≤ w2.heap.size) := by have := HZ1.out; have := hk2.size; show _ ≤ _; omega
    clear hl hr6 hk2 HR2 HR3 HR6 HR7 HB1 HZ1
    dsimp only
    go_wp2_with fail
    refine (HVS.out _ l HLL.out).mono ?_
    rintro e w3 ⟨hv, hb3⟩
    have r2 : Row w3 S 24 cfg0.vals := HR2b.out.below hb3 HR2b.out.lt
    have r3 : Row w3 (S + 1) 29 [nilS, nilS, nilS] := HR3b.out.below hb3 HR3b.out.lt
    have r6 : Row w3 (S + 1 + 1) 65 (rdC T a1 1) := HR6b.out.below hb3 HR6b.out.lt
    have r7 : Row w3 (S + 1 + 1 + 1) 24 cfg0.vals := HR7b.out.below hb3 HR7b.out.lt
    have HB3 : Hid (Below S w w3) := HB2.out.trans (hb3.mono (by have := HZ2.out; omega))
    have HZ3 : Hid (S + 4 ≤ w3.heap.size) := by have := HZ2.out; have := hb3.size; show _ ≤ _; omega
    rcases hv with ⟨v, L, hvs, rfl, ho⟩ | ⟨hvs, rfl⟩
    · obtain ⟨ao, cv, hve⟩ := ho.form
      subst hve
      have HOL : Hid (OwnE 3 w2.heap.size w3 (.slice ao (L.map nI).length cv) (L.map nI)) := ho
      rw [List.length_map] at HOL ⊢
      have hLb := values_len hvs
      have hLL := HLL.out
      clear hb3 ho HR2b HR3b HR6b HR7b HB2 HZ2
      dsimp only
      by_cases h7 : L.length = 7
      · obtain ⟨n0, n1, n2, n3, n4, n5, n6, rfl⟩ : ∃ n0 n1 n2 n3 n4 n5 n6, L = [n0, n1, n2, n3, n4, n5, n6] := by
          match L, h7 with
          | [n0, n1, n2, n3, n4, n5, n6], _ => exact ⟨n0, n1, n2, n3, n4, n5, n6, rfl⟩
        obtain ⟨gl, c', e', hg, hgl, k0⟩ := HOL.out.at 0 (.int .i64 (n0 : Int)) rfl
        injection e' with e1 _ ec
        subst e1
        subst ec
        have HGC : Hid (∀ (W : World) (i n : Nat), Below w3.heap.size w3 W → [n0, n1, n2, n3, n4, n5, n6][i]? = some n → W.cell? ⟨gl, i, none⟩ = some (.int .i64 (n : Int))) := fun W i n hW hi => by
          obtain ⟨g2, c2, e2, _, hl2, k1⟩ := HOL.out.at i (.int .i64 (n : Int)) (by rw [List.getElem?_map, hi]; rfl)
          injection e2 with e2 _ _
          injection e2 with e2
          injection e2 with e2 _
          subst e2
          exact (hW.cell (p := ⟨gl, i, none⟩) hl2).trans k1
        have HPC := parse_c HL.out hvs
        have HNS : Hid (∀ n ∈ [n0, n1, n2, n3, n4, n5, n6], n ≤ 2147483647) := values_le hvs
        clear HOL hvs h7 hLb hLL hg hgl k0 HL HLL
        have one7 : ∀ v ∈ ([.int .i64 (n0 : Int), .int .i64 (n1 : Int), .int .i64 (n2 : Int), .int .i64 (n3 : Int), .int .i64 (n4 : Int), .int .i64 (n5 : Int), .int .i64 (n6 : Int)] : List Value), Value.oneCell' v = true := by intro v hv; simp at hv; rcases hv with rfl | rfl | rfl | rfl | rfl | rfl | rfl <;> rfl
        go_wp2_with fail
        refine wp_region_inv (IPa7 w3 gl cv w3.heap.size n0 n1 n2 n3 n4 n5 n6 _ _ _ _ _ _ _ _ _ _ _ _ _ _ _ _ _ _ _ _ _ _ _ _ _ _ _ _ _ _ _ _ _ _ _ _ _ _ _ _ _ _ _ _ _ _ _ _ _ _ _ _ _ _ _ _ _ _ _ _ _ _ _ _ _ _ _ _ _ _ _ _ _ _ _ _ _ _ _ _ _ _ _ _ _ _ _ _ _ _ _ _ _ _ _ _ _ _ _ _ _ _ _ _ _ _ _ _ _ _ _ _ _ _ _ _ _ _ _ _) (by kernel_rfl) (by kernel_rfl) ⟨_, _, _, _, _, _, _, _, _, _, _, _, _, _, _, _, _, _, _, _, _, _, _, rfl, ⟨CS.zero rfl, fun k => (by cases k), fun k => (by cases k), fun k => (by cases k), fun k => (by cases k), fun k => (by cases k), fun k => (by cases k), fun k => (by cases k), fun k => (by cases k), fun k => (by cases k), fun k => (by cases k), fun k => (by cases k), fun k => (by cases k), fun k => (by cases k), fun k => (by cases k), fun k => (by cases k), fun k => (by cases k), fun k => (by cases k), fun k => (by cases k), fun k => (by cases k), fun k => (by cases k), fun k => (by cases k), fun k => (by cases k), fun k => (by cases k)⟩⟩ ?_ ?_
        · refine .cons ?_ (.cons ?_ (.cons ?_ (.cons ?_ (.cons ?_ (.cons ?_ (.cons ?_ (.cons ?_ (.cons ?_ (.cons ?_ (.cons ?_ (.cons ?_ (.cons ?_ (.cons ?_ (.cons ?_ (.cons ?_ (.cons ?_ (.cons ?_ (.cons ?_ (.cons ?_ (.cons ?_ (.cons ?_ (.cons ?_ (.cons ?_ .nil)))))))))))))))))))))))
          all_goals (refine Pa7.step ?_; intro x45 x46 x47 x48 x49 x50 x51 x52 x53 x54 x55 x56 x57 x58 x59 x60 x61 x62 x63 x64 x65 x66 x12 L W hI hL hd K hK)
          · rw [if_pos (by rfl)]
            go_simp
            exact hK.out _ _ ⟨_, _, _, _, _, _, _, _, _, _, _, _, _, _, _, _, _, _, _, _, _, _, _, rfl, { hI with p0 := fun _ => rfl }⟩
          · obtain rfl := hI.p0 (hd 0 (by decide))
            rw [if_pos (by rfl)]
            go_simp
            exact hK.out _ _ ⟨_, _, _, _, _, _, _, _, _, _, _, _, _, _, _, _, _, _, _, _, _, _, _, rfl, { hI with p1 := fun _ => rfl }⟩
          · obtain rfl := hI.p1 (hd 1 (by decide))
            rw [if_pos (by rfl)]
            have hc := HGC.out W 0 n0 hI.x.bel rfl
            go_simp
            exact hK.out _ _ ⟨_, _, _, _, _, _, _, _, _, _, _, _, _, _, _, _, _, _, _, _, _, _, _, rfl, { hI with p2 := fun _ => rfl }⟩
          · rw [if_pos (by rfl)]
            go_simp
            exact hK.out _ _ ⟨_, _, _, _, _, _, _, _, _, _, _, _, _, _, _, _, _, _, _, _, _, _, _, rfl, { hI with p3 := fun _ => rfl }⟩
          · obtain rfl := hI.p3 (hd 3 (by decide))
            rw [if_pos (by rfl)]
            go_simp
            exact hK.out _ _ ⟨_, _, _, _, _, _, _, _, _, _, _, _, _, _, _, _, _, _, _, _, _, _, _, rfl, { hI with p4 := fun _ => rfl }⟩
          · obtain rfl := hI.p4 (hd 4 (by decide))
            rw [if_pos (by rfl)]
            have hc := HGC.out W 1 n1 hI.x.bel rfl
            go_simp
            exact hK.out _ _ ⟨_, _, _, _, _, _, _, _, _, _, _, _, _, _, _, _, _, _, _, _, _, _, _, rfl, { hI with p5 := fun _ => rfl }⟩
          · rw [if_pos (by rfl)]
            go_simp
            exact hK.out _ _ ⟨_, _, _, _, _, _, _, _, _, _, _, _, _, _, _, _, _, _, _, _, _, _, _, rfl, { hI with p6 := fun _ => rfl }⟩
          · obtain rfl := hI.p6 (hd 6 (by decide))
            rw [if_pos (by rfl)]
            go_simp
            exact hK.out _ _ ⟨_, _, _, _, _, _, _, _, _, _, _, _, _, _, _, _, _, _, _, _, _, _, _, rfl, { hI with p7 := fun _ => rfl }⟩
          · obtain rfl := hI.p7 (hd 7 (by decide))
            rw [if_pos (by rfl)]
            have hc := HGC.out W 2 n2 hI.x.bel rfl
            go_simp
            exact hK.out _ _ ⟨_, _, _, _, _, _, _, _, _, _, _, _, _, _, _, _, _, _, _, _, _, _, _, rfl, { hI with p8 := fun _ => rfl }⟩
          · rw [if_pos (by rfl)]
            go_simp
            exact hK.out _ _ ⟨_, _, _, _, _, _, _, _, _, _, _, _, _, _, _, _, _, _, _, _, _, _, _, rfl, { hI with p9 := fun _ => rfl }⟩
          · obtain rfl := hI.p9 (hd 9 (by decide))
            rw [if_pos (by rfl)]
            go_simp
            exact hK.out _ _ ⟨_, _, _, _, _, _, _, _, _, _, _, _, _, _, _, _, _, _, _, _, _, _, _, rfl, { hI with p10 := fun _ => rfl }⟩
          · obtain rfl := hI.p10 (hd 10 (by decide))
            rw [if_pos (by rfl)]
            have hc := HGC.out W 3 n3 hI.x.bel rfl
            go_simp
            exact hK.out _ _ ⟨_, _, _, _, _, _, _, _, _, _, _, _, _, _, _, _, _, _, _, _, _, _, _, rfl, { hI with p11 := fun _ => rfl }⟩
          · rw [if_pos (by rfl)]
            go_simp
            exact hK.out _ _ ⟨_, _, _, _, _, _, _, _, _, _, _, _, _, _, _, _, _, _, _, _, _, _, _, rfl, { hI with p12 := fun _ => rfl }⟩
          · obtain rfl := hI.p12 (hd 12 (by decide))
            rw [if_pos (by rfl)]
            go_simp
            exact hK.out _ _ ⟨_, _, _, _, _, _, _, _, _, _, _, _, _, _, _, _, _, _, _, _, _, _, _, rfl, { hI with p13 := fun _ => rfl }⟩
          · obtain rfl := hI.p13 (hd 13 (by decide))
            rw [if_pos (by rfl)]
            have hc := HGC.out W 4 n4 hI.x.bel rfl
            go_simp
            exact hK.out _ _ ⟨_, _, _, _, _, _, _, _, _, _, _, _, _, _, _, _, _, _, _, _, _, _, _, rfl, { hI with p14 := fun _ => rfl }⟩
          · rw [if_pos (by rfl)]
            go_simp
            exact hK.out _ _ ⟨_, _, _, _, _, _, _, _, _, _, _, _, _, _, _, _, _, _, _, _, _, _, _, rfl, { hI with p15 := fun _ => rfl }⟩
          · obtain rfl := hI.p15 (hd 15 (by decide))
            rw [if_pos (by rfl)]
            go_simp
            exact hK.out _ _ ⟨_, _, _, _, _, _, _, _, _, _, _, _, _, _, _, _, _, _, _, _, _, _, _, rfl, { hI with p16 := fun _ => rfl }⟩
          · obtain rfl := hI.p16 (hd 16 (by decide))
            rw [if_pos (by rfl)]
            have hc := HGC.out W 5 n5 hI.x.bel rfl
            go_simp
            exact hK.out _ _ ⟨_, _, _, _, _, _, _, _, _, _, _, _, _, _, _, _, _, _, _, _, _, _, _, rfl, { hI with p17 := fun _ => rfl }⟩
          · rw [if_pos (by rfl)]
            go_simp
            exact hK.out _ _ ⟨_, _, _, _, _, _, _, _, _, _, _, _, _, _, _, _, _, _, _, _, _, _, _, rfl, { hI with p18 := fun _ => rfl }⟩
          · obtain rfl := hI.p18 (hd 18 (by decide))
            rw [if_pos (by rfl)]
            go_simp
            exact hK.out _ _ ⟨_, _, _, _, _, _, _, _, _, _, _, _, _, _, _, _, _, _, _, _, _, _, _, rfl, { hI with p19 := fun _ => rfl }⟩
          · obtain rfl := hI.p19 (hd 19 (by decide))
            rw [if_pos (by rfl)]
            have hc := HGC.out W 6 n6 hI.x.bel rfl
            go_simp
            exact hK.out _ _ ⟨_, _, _, _, _, _, _, _, _, _, _, _, _, _, _, _, _, _, _, _, _, _, _, rfl, { hI with p20 := fun _ => rfl }⟩
          · obtain rfl := hI.p2 (hd 2 (by decide))
            obtain rfl := hI.p5 (hd 5 (by decide))
            obtain rfl := hI.p8 (hd 8 (by decide))
            obtain rfl := hI.p11 (hd 11 (by decide))
            obtain rfl := hI.p14 (hd 14 (by decide))
            obtain rfl := hI.p17 (hd 17 (by decide))
            obtain rfl := hI.p20 (hd 20 (by decide))
            rw [if_pos (by rfl)]
            go_simp
            exact hK.out _ _ ⟨_, _, _, _, _, _, _, _, _, _, _, _, _, _, _, _, _, _, _, _, _, _, _, rfl, { hI with p21 := fun _ => rfl }⟩
          · rw [if_pos (by rfl)]
            have hz := hI.x.sz hL
            have hX := hI.x.al hL #[.int .i64 0, .int .i64 0, .int .i64 0, .int .i64 0, .int .i64 0, .int .i64 0, .int .i64 0] rfl
            go_simp
            exact hK.out _ _ ⟨_, _, _, _, _, _, _, _, _, _, _, _, _, _, _, _, _, _, _, _, _, _, _, rfl, { hI with x := hX, p22 := fun _ => rfl }⟩
          · obtain rfl := hI.p22 (hd 22 (by decide))
            obtain rfl := hI.p21 (hd 21 (by decide))
            obtain ⟨old, ro, lo, _⟩ := hI.x.r (hd 22 (by decide))
            refine step_store_Row rfl 24 _ _ rfl _ 24 old [.int .i64 (n0 : Int), .int .i64 (n1 : Int), .int .i64 (n2 : Int), .int .i64 (n3 : Int), .int .i64 (n4 : Int), .int .i64 (n5 : Int), .int .i64 (n6 : Int)] ro (by rw [lo]; rfl) rfl rfl (by kernel_rfl) one7 ?_
            intro W2 hr2 hs2
            exact hK.out _ _ ⟨_, _, _, _, _, _, _, _, _, _, _, _, _, _, _, _, _, _, _, _, _, _, _, rfl, { hI with x := (hI.x.st hr2 hs2 rfl (hd 22 (by decide))) }⟩
        · rintro L _ W hall ⟨x45, x46, x47, x48, x49, x50, x51, x52, x53, x54, x55, x56, x57, x58, x59, x60, x61, x62, x63, x64, x65, x66, x12, rfl, hI⟩
          obtain rfl := hI.p0 (hall 0 (by decide))
          obtain rfl := hI.p1 (hall 1 (by decide))
          obtain rfl := hI.p2 (hall 2 (by decide))
          obtain rfl := hI.p3 (hall 3 (by decide))
          obtain rfl := hI.p4 (hall 4 (by decide))
          obtain rfl := hI.p5 (hall 5 (by decide))
          obtain rfl := hI.p6 (hall 6 (by decide))
          obtain rfl := hI.p7 (hall 7 (by decide))
          obtain rfl := hI.p8 (hall 8 (by decide))
          obtain rfl := hI.p9 (hall 9 (by decide))
          obtain rfl := hI.p10 (hall 10 (by decide))
          obtain rfl := hI.p11 (hall 11 (by decide))
          obtain rfl := hI.p12 (hall 12 (by decide))
          obtain rfl := hI.p13 (hall 13 (by decide))
          obtain rfl := hI.p14 (hall 14 (by decide))
          obtain rfl := hI.p15 (hall 15 (by decide))
          obtain rfl := hI.p16 (hall 16 (by decide))
          obtain rfl := hI.p17 (hall 17 (by decide))
          obtain rfl := hI.p18 (hall 18 (by decide))
          obtain rfl := hI.p19 (hall 19 (by decide))
          obtain rfl := hI.p20 (hall 20 (by decide))
          obtain rfl := hI.p21 (hall 21 (by decide))
          obtain rfl := hI.p22 (hall 22 (by decide))
          have hXe := hI.x
          rw [hall 22 (by decide)] at hXe
          rw [hall 23 (by decide)] at hXe
          clear hI hall
          try dsimp only
          obtain ⟨old, rD, lo, hoe⟩ := hXe.r rfl
          have e3 := hoe rfl
          subst e3
          have hb4 := hXe.bel
          have q2 : Row W S 24 cfg0.vals := r2.below hb4 r2.lt
          have q3 : Row W (S + 1) 29 [nilS, nilS, nilS] := r3.below hb4 r3.lt
          have q6 : Row W (S + 1 + 1) 65 (rdC T a1 1) := r6.below hb4 r6.lt
          have q7 : Row W (S + 1 + 1 + 1) 24 cfg0.vals := r7.below hb4 r7.lt
          have HB4 : Hid (Below S w W) := HB3.out.trans (hb4.mono (by have := HZ3.out; omega))
          have HDZ : Hid (S + 4 ≤ w3.heap.size ∧ w3.heap.size < W.heap.size) := ⟨HZ3.out, rD.lt⟩
          clear hXe hoe hb4 r2 r3 r6 r7 HB3 HGC HZ3 lo one7
          generalize w3.heap.size = D at *
          obtain ⟨c, hc⟩ : ∃ c : Cfg, c = ⟨n0, n1, n2, n3, n4, n5, n6⟩ := ⟨_, rfl⟩
          have hcv : c.vals = [.int .i64 (n0 : Int), .int .i64 (n1 : Int), .int .i64 (n2 : Int), .int .i64 (n3 : Int), .int .i64 (n4 : Int), .int .i64 (n5 : Int), .int .i64 (n6 : Int)] := by rw [hc]; rfl
          rw [← hcv] at rD
          have HMA : Hid (∀ W : World, Calls Tryd.prog 21 #[.agg c.vals.toArray] W fun e w' => e = .returned (.bool (decide (c.may = 0))) ∧ Below W.heap.size W w') := fun W => r21may_any c W
          have lcv : c.vals.length = 7 := rfl
          rw [← hc] at HPC
          have HCN : Hid (c.cells = (n0 : Int) ∧ c.slots = (n1 : Int) ∧ c.fuses = (n2 : Int) ∧ c.keys = (n4 : Int) ∧ c.area = (n6 : Int)) := by rw [hc]; exact ⟨rfl, rfl, rfl, rfl, rfl⟩
          clear hcv hc
          go_wp2_with (refine wpList_load_Row rfl 24 _ rfl _ _ c.vals rD rfl _ Tryd.underlying24 rfl (by rw [lcv]; kernel_rfl) ?_)
          refine (HMA.out _).mono ?_
          rintro e w4 ⟨rfl, hb4⟩
          have r2 : Row w4 S 24 cfg0.vals := q2.below hb4 q2.lt
          have r3 : Row w4 (S + 1) 29 [nilS, nilS, nilS] := q3.below hb4 q3.lt
          have r6 : Row w4 (S + 1 + 1) 65 (rdC T a1 1) := q6.below hb4 q6.lt
          have r7 : Row w4 (S + 1 + 1 + 1) 24 cfg0.vals := q7.below hb4 q7.lt
          have rc : Row w4 D 24 c.vals := rD.below hb4 rD.lt
          have HB3 : Hid (Below S w w4) := HB4.out.trans (hb4.mono (by have := HDZ.out; omega))
          have HZ4 : Hid (S + 4 ≤ D ∧ D < w4.heap.size) := ⟨HDZ.out.1, rc.lt⟩
          clear q2 q3 q6 q7 rD hb4 HB4 HDZ
          dsimp only
          by_cases hma : c.may = 0
          · rw [decide_eq_true hma]
            rw [if_pos hma] at HPC
            obtain ⟨m1, m2, m3, m4, m5, m6, m7⟩ := may_all hma
            obtain ⟨cc0, cc1, cc2, cc4, cc6⟩ := HCN.out
            have HNF : Hid ((c.slots * c.fuses + c.keys) = ((((n1 : Int) * n2 + n4).toNat : Nat) : Int)) := by
              show _ = _
              rw [cc1, cc2, cc4]
              have h0 : (0 : Int) ≤ (n1 : Int) * n2 := Int.mul_nonneg (by omega) (by omega)
              omega
            have HBW : Hid (∀ (W : World) (l : List By), l.length ≤ 2000000 → Calls Tryd.prog 31 #[.agg c.vals.toArray, .string (strOf l)] W (BlP W.heap.size W ((n1 : Int) * n2 + n4).toNat l)) := fun W l h => r21blown_any c hma l h W _ HNF.out
            have HPGS : Hid (∀ W : World, Calls Tryd.prog 32 #[.agg c.vals.toArray] W fun e w' => e = .returned (.int .i64 (((2 + 2 * (n6 : Int)).toNat : Nat) : Int)) ∧ Below W.heap.size W w') := fun W => by
              have := r21pages_any c m7.1 m7.2 W
              rw [show (2 + 2 * c.area) = (((2 + 2 * (n6 : Int)).toNat : Nat) : Int) by rw [cc6]; omega] at this
              exact this
            have hn0 : 4 ≤ n0 ∧ n0 ≤ 256 := by omega
            have HPAG : Hid (∀ (W : World) (b m p : Nat), Row W (S + 1 + 1) 65 (rdC T b m) → b ≤ T.length → m ≤ b → p ≤ 1000 → Calls Tryd.prog 33 #[.pointer (some ⟨S + 1 + 1, 0, none⟩), .agg c.vals.toArray, .int .i64 (p : Int)] W (PgP (S + 1 + 1) n0 p T b m W)) := fun W b m p h1 h2 h3 h4 => r21page_any (S + 1 + 1) T b m c n0 p W cc0 hn0.1 hn0.2 h4 h1 h2 hT h3
            have hNP : 2 ≤ (2 + 2 * (n6 : Int)).toNat ∧ (2 + 2 * (n6 : Int)).toNat ≤ 130 := by omega
            have HBN : Hid (blown? ((n1 : Int) * n2 + n4).toNat [] = none) := by show _ = _; unfold blown?; rw [show values? [] wBlown = none by decide]
            have one1 : ∀ v ∈ c.vals, Value.oneCell' v = true := by intro v hv; simp [Cfg.vals] at hv; rcases hv with rfl | rfl | rfl | rfl | rfl | rfl | rfl <;> rfl
            clear m1 m2 m3 m4 m5 m6 m7 cc0 cc1 cc2 cc4 cc6 HCN hma HNF HMA hn0 HNS
            generalize ((n1 : Int) * n2 + n4).toNat = NF at *
            generalize (2 + 2 * (n6 : Int)).toNat = NP at *
            generalize hCV : c.vals = CV at *
            have HCV : Hid (c.vals = CV) := hCV
            clear hCV
            go_upto_region 11 with fail
            have HR2 : Hid (Row (w4.alloc (.cells #[.slice none 0 0, .slice none 0 0, .slice none 0 0] 29)) S 24 cfg0.vals) := r2.alloc _
            have HR3 : Hid (Row (w4.alloc (.cells #[.slice none 0 0, .slice none 0 0, .slice none 0 0] 29)) (S + 1) 29 [nilS, nilS, nilS]) := r3.alloc _
            have HR6 : Hid (Row (w4.alloc (.cells #[.slice none 0 0, .slice none 0 0, .slice none 0 0] 29)) (S + 1 + 1) 65 (rdC T a1 1)) := r6.alloc _
            have HR7 : Hid (Row (w4.alloc (.cells #[.slice none 0 0, .slice none 0 0, .slice none 0 0] 29)) (S + 1 + 1 + 1) 24 cfg0.vals) := r7.alloc _
            have HRC : Hid (Row (w4.alloc (.cells #[.slice none 0 0, .slice none 0 0, .slice none 0 0] 29)) D 24 CV) := rc.alloc _
            have HRO : Hid (Row (w4.alloc (.cells #[.slice none 0 0, .slice none 0 0, .slice none 0 0] 29)) w4.heap.size 29 [nilS, nilS, nilS]) := Row.at _ _ _ _ _ rfl rfl
            have HB5 : Hid (Below S w (w4.alloc (.cells #[.slice none 0 0, .slice none 0 0, .slice none 0 0] 29))) := HB3.out.alloc (by have := HZ4.out; omega) _
            have HZ5 : Hid (S + 4 ≤ D ∧ D < w4.heap.size ∧ w4.heap.size < (w4.alloc (.cells #[.slice none 0 0, .slice none 0 0, .slice none 0 0] 29)).heap.size) := ⟨HZ4.out.1, HZ4.out.2, by simp⟩
            generalize hW5 : w4.alloc (.cells #[.slice none 0 0, .slice none 0 0, .slice none 0 0] 29) = W5 at *
            clear hW5 r2 r3 r6 r7 rc HB3 HZ4
            generalize w4.heap.size = D2 at *
            go_wp2_with fail
            refine (HNX.out _ _ a1 1 HR6.out ha1 (by omega)).mono ?_
            rintro e w5 (⟨l2, a2, hl2, ha2, haa2, rfl, hr6, hk5⟩ | ⟨hl2, rfl, hr6, hk5⟩)
            · have hne : ∀ b, b ≠ S + 1 + 1 → b ∉ [S + 1 + 1] := fun b hb hm => hb (List.mem_singleton.1 hm)
              have HQ2 : Hid (Row w5 S 24 cfg0.vals) := hk5.row HR2.out (hne _ (by omega))
              have HQ3 : Hid (Row w5 (S + 1) 29 [nilS, nilS, nilS]) := hk5.row HR3.out (hne _ (by omega))
              have HQ6 : Hid (Row w5 (S + 1 + 1) 65 (rdC T a2 2)) := hr6
              have HQ7 : Hid (Row w5 (S + 1 + 1 + 1) 24 cfg0.vals) := hk5.row HR7.out (hne _ (by omega))
              have HQC : Hid (Row w5 D 24 CV) := hk5.row HRC.out (hne _ (by have := HZ5.out; omega))
              have HQO : Hid (Row w5 D2 29 [nilS, nilS, nilS]) := hk5.row HRO.out (hne _ (by have := HZ5.out; omega))
              have HB6 : Hid (Below S w w5) := below_keptL HB5.out hk5 (fun b hb => by rw [List.mem_singleton.1 hb]; omega) (by have := HZ5.out; omega)
              have HZ6 : Hid (S + 4 ≤ D ∧ D < D2 ∧ D2 < w5.heap.size) := ⟨HZ5.out.1, HZ5.out.2.1, HQO.out.lt⟩
              have hl2b : l2.length ≤ 2000000 := by have := line_le hl2; omega
              have HL2 : Hid (lineOf (T.drop a1) = some (l2, T.drop a2)) := hl2
              rw [hl2] at HPC
              clear hl2 hr6 hk5 HR2 HR3 HR6 HR7 HRC HRO HB5 HZ5 hne
              dsimp only
              have rC := HQC.out
              go_wp2_with (refine wpList_load_Row rfl 24 _ rfl _ _ CV rC rfl _ Tryd.underlying24 rfl (by rw [lcv]; kernel_rfl) ?_)
              refine (HBW.out _ l2 hl2b).mono ?_
              rintro e w6 ⟨hbl, hb6⟩
              have rO6 : Row w6 D2 29 [nilS, nilS, nilS] := HQO.out.below hb6 HQO.out.lt
              have HP2 : Hid (Row w6 S 24 cfg0.vals) := HQ2.out.below hb6 HQ2.out.lt
              have HP3 : Hid (Row w6 (S + 1) 29 [nilS, nilS, nilS]) := HQ3.out.below hb6 HQ3.out.lt
              have HP6 : Hid (Row w6 (S + 1 + 1) 65 (rdC T a2 2)) := HQ6.out.below hb6 HQ6.out.lt
              have HP7 : Hid (Row w6 (S + 1 + 1 + 1) 24 cfg0.vals) := HQ7.out.below hb6 HQ7.out.lt
              have HPCc : Hid (Row w6 D 24 CV) := HQC.out.below hb6 HQC.out.lt
              have HB7 : Hid (Below S w w6) := HB6.out.trans (hb6.mono (by have := HZ6.out; omega))
              have HZ7 : Hid (S + 4 ≤ D ∧ D < D2 ∧ D2 < w6.heap.size) := ⟨HZ6.out.1, HZ6.out.2.1, rO6.lt⟩
              have cO2 := rO6.cell 2 (.slice none 0 0) rfl
              have fO2 := rO6.frozen 2
              rcases hbl with ⟨gB, bl, hbs, rfl, hgB, hrB⟩ | ⟨hbs, rfl⟩
              · have HBLN : Hid (bl.length = NF) := blown_len hbs
                simp only [hbs] at HPC
                obtain ⟨PGR, hPGR⟩ : ∃ PGR, PGR = pagesP n0 NP 0 (T.drop a2) 2 := ⟨_, rfl⟩
                have HPL0 : Hid (PLeft n0 NP T [] [] 0 a2 2 PGR) := by rw [hPGR]; exact PLeft.zero n0 NP T a2 2
                rw [← hPGR] at HPC
                have HPE : Hid (∀ k, PGR = .error k → parseL T = .error (5, k)) := fun k hk => by show _ = _; rw [HPC, hk]
                have HPO : Hid (∀ gs es b m, PGR = .ok (gs, es, T.drop b, m) → (T.length ≤ b → parseL T = .ok (c, ⟨gs, es, bl⟩)) ∧ (b < T.length → parseL T = .error (5, m + 1))) := fun gs es b m hk => by
                  refine ⟨fun h => ?_, fun h => ?_⟩
                  · rw [HPC, hk]; exact if_pos (List.drop_of_length_le h)
                  · rw [HPC, hk]; exact if_neg (fun h2 => by have := congrArg List.length h2; rw [List.length_drop] at this; simp at this; omega)
                have HGB : Hid (gB < w6.heap.size ∧ D2 < gB) := ⟨hrB.lt, by have := HZ6.out; omega⟩
                have HRB6 : Hid (Row w6 gB 4 (bl.map Value.bool)) := hrB
                clear HQ2 HQ3 HQ6 HQ7 HQC HQO HB6 HZ6 hb6 HPC hbs rC hPGR hgB hrB
                dsimp only
                go_upto_region 13 with fail
                have sb := SameBut.setCell D2 2 (.slice (some ⟨gB, 0, none⟩) NF NF) w6
                have HR2 : Hid (Row (w6.setCell ⟨D2, 2, none⟩ (.slice (some ⟨gB, 0, none⟩) NF NF)) S 24 cfg0.vals) := HP2.out.but sb (by have := HZ7.out; omega)
                have HR3 : Hid (Row (w6.setCell ⟨D2, 2, none⟩ (.slice (some ⟨gB, 0, none⟩) NF NF)) (S + 1) 29 [nilS, nilS, nilS]) := HP3.out.but sb (by have := HZ7.out; omega)
                have HR6 : Hid (Row (w6.setCell ⟨D2, 2, none⟩ (.slice (some ⟨gB, 0, none⟩) NF NF)) (S + 1 + 1) 65 (rdC T a2 2)) := HP6.out.but sb (by have := HZ7.out; omega)
                have HR7 : Hid (Row (w6.setCell ⟨D2, 2, none⟩ (.slice (some ⟨gB, 0, none⟩) NF NF)) (S + 1 + 1 + 1) 24 cfg0.vals) := HP7.out.but sb (by have := HZ7.out; omega)
                have HRC : Hid (Row (w6.setCell ⟨D2, 2, none⟩ (.slice (some ⟨gB, 0, none⟩) NF NF)) D 24 CV) := HPCc.out.but sb (by have := HZ7.out; omega)
                have HRB : Hid (Row (w6.setCell ⟨D2, 2, none⟩ (.slice (some ⟨gB, 0, none⟩) NF NF)) gB 4 (bl.map Value.bool)) := HRB6.out.but sb (by have := HGB.out; omega)
                have hO := rO6.set 2 (.slice (some ⟨gB, 0, none⟩) NF NF)
                have HB3 : Hid (Below S w (w6.setCell ⟨D2, 2, none⟩ (.slice (some ⟨gB, 0, none⟩) NF NF))) := sb.below HB7.out (by have := HZ7.out; omega)
                have hsz := sb.size
                generalize w6.setCell ⟨D2, 2, none⟩ (.slice (some ⟨gB, 0, none⟩) NF NF) = w7 at *
                have HZZ : Hid (S + 4 ≤ D ∧ D < D2 ∧ D2 < gB ∧ gB < w7.heap.size) := ⟨HZ7.out.1, HZ7.out.2.1, HGB.out.2, by rw [hsz]; exact HGB.out.1⟩
                have HPM0 : Hid (PM w7.heap.size D2 (.slice (some ⟨gB, 0, none⟩) NF NF) [] [] none 0 none 0 [] w7) := ⟨hO, World.ownsRow_nil _ _ _ _, fun i v g hv => by simp at hv, World.ownsRow_nil _ _ _ _, Nat.le_refl _⟩
                clear HP2 HP3 HP6 HP7 HPCc HB7 HZ7 sb cO2 fO2 rO6 hO hsz HGB HRB6
                have HK0 : Hid (KeptL [S + 1 + 1, D2] w7 w7) := KeptL.refl _ _
                go_wp2_with fail
                go_loopw [14] (fun pv wr => ∃ (p b m : Nat) (pgs : List (List (List By))) (ers : List Int) (po eo : Option Addr) (pc ec : Nat) (qs : List Value), p ≤ NP ∧ pv = .int .i64 p ∧ b ≤ T.length ∧ m ≤ b ∧ pgs.length = p ∧ ers.length = p ∧ Hid (PLeft n0 NP T pgs ers p b m PGR) ∧ Hid (PM w7.heap.size D2 (.slice (some ⟨gB, 0, none⟩) NF NF) pgs ers po pc eo ec qs wr) ∧ Hid (Row wr (S + 1 + 1) 65 (rdC T b m)) ∧ Hid (KeptL [S + 1 + 1, D2] w7 wr)) (fun pv _ => NP - (intOf pv).toNat)
                case atStart => exact ⟨0, a2, 2, [], [], none, none, 0, 0, [], by omega, rfl, ha2, by omega, rfl, rfl, HPL0, HPM0, HR6, HK0⟩
                case round =>
                  clear HPL0 HPM0 HR6 HK0
                  obtain ⟨p, b, m, pgs, ers, po, eo, pc, ec, qs, hp, rfl, hb, hm, hpl, hel, HPL, HPM, HRD6, HKK⟩ := hrel
                  have hneD : D ∉ [S + 1 + 1, D2] := by have := HZZ.out; simp; omega
                  have rC : Row wr D 24 CV := HKK.out.row HRC.out hneD
                  go_wp2_with (refine wpList_load_Row rfl 24 _ rfl _ _ CV rC rfl _ Tryd.underlying24 rfl (by rw [lcv]; kernel_rfl) ?_)
                  refine (HPGS.out _).mono ?_
                  rintro e w8 ⟨rfl, hb8⟩
                  have rC8 : Row w8 D 24 CV := rC.below hb8 rC.lt
                  have HPM8 : Hid (PM w7.heap.size D2 (.slice (some ⟨gB, 0, none⟩) NF NF) pgs ers po pc eo ec qs w8) := HPM.out.below hb8
                  have HRD8 : Hid (Row w8 (S + 1 + 1) 65 (rdC T b m)) := HRD6.out.below hb8 HRD6.out.lt
                  have HK8 : Hid (KeptL [S + 1 + 1, D2] w7 w8) := HKK.out.below hb8 HKK.out.size
                  clear hb8 rC HPM HRD6 HKK
                  dsimp only
                  by_cases hlt : p < NP
                  · have y1 : (p : Int) < (NP : Int) := by omega
                    go_wp2_with (refine wpList_load_Row rfl 24 _ rfl _ _ CV rC8 rfl _ Tryd.underlying24 rfl (by rw [lcv]; kernel_rfl) ?_)
                    refine (HPAG.out _ b m p HRD8.out hb hm (by omega)).mono ?_
                    rintro e w9 (⟨v, gs, en, b', m', hpg, hb', hm', hbb, hgl9, hen, rfl, hov, hr9, hk9⟩ | ⟨k, b', hpg, rfl, hr9, hk9⟩)
                    · have HPLn : Hid (PLeft n0 NP T (pgs ++ [gs]) (ers ++ [(en : Int)]) (p + 1) b' m' PGR) := HPL.out.step hlt hpg
                      have HPM9 : Hid (PM w7.heap.size D2 (.slice (some ⟨gB, 0, none⟩) NF NF) pgs ers po pc eo ec qs w9) := HPM8.out.kept hk9 (fun x hx => by rw [List.mem_singleton.1 hx]; have := HZZ.out; omega)
                      have HK9 : Hid (KeptL [S + 1 + 1, D2] w7 w9) := HK8.out.trans (hk9.sub (fun x hx => by rw [List.mem_singleton.1 hx]; simp))
                      have HRD9 : Hid (Row w9 (S + 1 + 1) 65 (rdC T b' m')) := hr9
                      have HOV : Hid (OwnC w7.heap.size w9 v gs) := hov.mono HK8.out.size
                      obtain ⟨av, cv9, hve⟩ := hov.form
                      subst hve
                      rw [hgl9] at HOV ⊢
                      have c0 := HPM9.out.out.cell 0 _ rfl
                      have hN9 := HPM9.out.sz
                      have HDN : Hid (D2 < w7.heap.size) := by have := HZZ.out; show _ < _; omega
                      clear hpg hov hr9 hk9 HPL HPM8 HRD8 HK8 rC8 hgl9
                      dsimp only
                      have pr9 := HPM9.out.pr
                      rw [hpl] at pr9 c0
                      have HPR9 : Hid (w9.ownsRow w7.heap.size 57 1 (.slice po p pc) p qs) := pr9
                      clear pr9
                      go_upto_region 22 with (at_builtin; refine wpList_app1k el_pages rfl (.tmp 116) (.tmp 118) rfl w7.heap.size _ po p pc qs (.slice av n0 cv9) rfl _ rfl rfl rfl HPR9.out hN9 (by omega) (by unfold maxLen; omega) ?_; intro ao6 c6 w10 ho6 hb6 hk6; have rO10 := HPM9.out.out.below hb6 HDN.out; have cO10 := rO10.cell 0 _ rfl; have fO10 := rO10.frozen 0)
                      have hpm := HPM9.out.pushP HDN.out HOV.out (by rw [hpl]; exact ho6) hb6 hk6
                      rw [hpl] at hpm
                      have HPM11 : Hid (PM w7.heap.size D2 (.slice (some ⟨gB, 0, none⟩) NF NF) (pgs ++ [gs]) ers ao6 c6 eo ec (qs ++ [.slice av n0 cv9]) (w10.setCell ⟨D2, 0, none⟩ (.slice ao6 (p + 1) c6))) := hpm
                      have sb := SameBut.setCell D2 0 (.slice ao6 (p + 1) c6) w10
                      have HK11 : Hid (KeptL [S + 1 + 1, D2] w7 (w10.setCell ⟨D2, 0, none⟩ (.slice ao6 (p + 1) c6))) := (HK9.out.below hb6 (Nat.le_refl _)).but sb (.inl (by simp))
                      have HRD11 : Hid (Row (w10.setCell ⟨D2, 0, none⟩ (.slice ao6 (p + 1) c6)) (S + 1 + 1) 65 (rdC T b' m')) := (HRD9.out.below hb6 (by have := HZZ.out; omega)).but sb (by have := HZZ.out; omega)
                      generalize w10.setCell ⟨D2, 0, none⟩ (.slice ao6 (p + 1) c6) = w11 at *
                      clear hpm sb ho6 hb6 hk6 rO10 cO10 fO10 HPM9 HK9 HRD9 HOV HPR9 c0 hN9
                      have c1 := HPM11.out.out.cell 1 _ rfl
                      have er11 := HPM11.out.er
                      rw [hel] at c1 er11
                      have HER : Hid (w11.ownsRow w7.heap.size 3 1 (.slice eo p ec) p (ers.map (Value.int .i64))) := er11
                      have hN11 := HPM11.out.sz
                      clear er11
                      have wi : IntKind.i64.wrap ((p : Int) + 1) = (p : Int) + 1 := i64_in _ (by omega) (by omega)
                      go_wp2_with (at_builtin; refine wpList_app1k el_ints rfl (.tmp 122) (.tmp 124) rfl w7.heap.size _ eo p ec _ (.int .i64 (en : Int)) rfl _ rfl rfl rfl HER.out hN11 (by omega) (by unfold maxLen; omega) ?_; intro ao7 c7 w12 ho7 hb7 hk7; have rO12 := HPM11.out.out.below hb7 HDN.out; have cO12 := rO12.cell 1 _ rfl; have fO12 := rO12.frozen 1)
                      have hpm := HPM11.out.pushE HDN.out (n := (en : Int)) (by rw [hel]; exact ho7) hb7 hk7
                      rw [hel] at hpm
                      have sb := SameBut.setCell D2 1 (.slice ao7 (p + 1) c7) w12
                      exact ⟨⟨p + 1, b', m', pgs ++ [gs], ers ++ [(en : Int)], ao6, ao7, c6, c7, _, by omega, by go_num, hb', hm', by rw [List.length_append, hpl]; rfl, by rw [List.length_append, hel]; rfl, HPLn, hpm, (HRD11.out.below hb7 (by have := HZZ.out; omega)).but sb (by have := HZZ.out; omega), (HK11.out.below hb7 (Nat.le_refl _)).but sb (.inl (by simp))⟩, by simp [intOf]; omega⟩
                    · have HF : Hid (parseL T = .error (5, k)) := HPE.out k (HPL.out.bad hlt hpg)
                      have HK9 : Hid (KeptL [S + 1 + 1, D2] w7 w9) := HK8.out.trans (hk9.sub (fun x hx => by rw [List.mem_singleton.1 hx]; simp))
                      have r2 : Row w9 S 24 cfg0.vals := HK9.out.row HR2.out (by have := HZZ.out; simp; omega)
                      have r3 : Row w9 (S + 1) 29 [nilS, nilS, nilS] := HK9.out.row HR3.out (by have := HZZ.out; simp; omega)
                      have r7 : Row w9 (S + 1 + 1 + 1) 24 cfg0.vals := HK9.out.row HR7.out (by have := HZZ.out; simp; omega)
                      have HL7 : Hid (∀ W, KeptL [S, S + 1] w9 W → Row W (S + 1 + 1 + 1) 24 cfg0.vals) := fun W h => h.row r7 (by simp; omega)
                      have HL6 : Hid (∀ W, KeptL [S, S + 1] w9 W → W.cell? ⟨S + 1 + 1, 2, none⟩ = some (.int .i64 (k : Int))) := fun W h => (h.row hr9 (by simp; omega)).cell 2 _ rfl
                      have HBE : Hid (∀ W, KeptL [S, S + 1] w9 W → Below S w W) := fun W h => below_keptL (below_keptL HB3.out HK9.out (fun x hx => by have := HZZ.out; simp at hx; omega) (by have := HZZ.out; omega)) h (fun x hx => by simp at hx; omega) (by have := r2.lt; omega)
                      have hz2 : cfg0.vals.length = 7 := rfl
                      clear hpg hr9 hk9 HPL HPM8 HRD8 HK8 rC8 HK9 r7
                      dsimp only
                      have one7 : ∀ v ∈ cfg0.vals, Value.oneCell' v = true := by intro v hv; simp [Cfg.vals] at hv; subst hv; rfl
                      have l7 : cfg0.vals.length = 7 := rfl
                      have one3 : ∀ v ∈ ([nilS, nilS, nilS] : List Value), Value.oneCell' v = true := by intro v hv; simp at hv; subst hv; rfl
                      have l3n : ([nilS, nilS, nilS] : List Value).length = 3 := rfl
                      generalize hC7 : cfg0.vals = C7 at *
                      have HC7 : Hid (cfg0.vals = C7) := hC7
                      clear hC7
                      have HZE : Hid (ES w9 S C7 [nilS, nilS, nilS] false false w9.drew) := ES.zero C7 _ r2 l7 r3 rfl
                      go_wp2_with fail
                      refine wp_region_inv (IPa20 w9 S k C7 _ _ _ _ _ _ _ _ _ _ _ _ _ _ _ _ _ _ _ _ _ _ _ _ _ _ _ _ _ _ _ _ _ _ _ _ _ _ _ _ _ _ _ _ _ _ _ _ _ _ _ _ _ _ _ _ _ _ _ _ _ _ _ _ _ _ _ _ _ _ _ _ _ _ _ _ _ _ _ _ _ _ _ _ _ _ _ _ _ _ _ _ _ _ _ _ _ _ _ _ _ _ _ _ _ _ _ _ _ _ _ _ _ _ _ _ _ _ _ _ _ _ _ _ _ _ _ _ _ _ _ _ _ _ _) (by kernel_rfl) (by kernel_rfl) ⟨_, _, _, _, _, _, _, _, rfl, ⟨HZE.out, fun k => (by cases k), fun k => (by cases k), fun k => (by cases k), fun k => (by cases k), fun k => (by cases k), fun k => (by cases k), fun k => (by cases k), fun k => (by cases k)⟩⟩ ?_ ?_
                      · refine .cons ?_ (.cons ?_ (.cons ?_ (.cons ?_ (.cons ?_ (.cons ?_ (.cons ?_ (.cons ?_ (.cons ?_ (.cons ?_ .nil)))))))))
                        all_goals (rintro L _ W ⟨x109, x110, x111, x112, x113, x114, x4, x5, rfl, hI⟩ hL hd K hK)
                        · refine step_load_rng' (by rfl) 24 _ rfl _ 0 C7 (load_agg_at (HL7.out _ hI.x.kept)) rfl _ Tryd.underlying24 rfl (by rw [l7]; kernel_rfl) ?_
                          exact hK.out _ _ ⟨_, _, _, _, _, _, _, _, rfl, { hI with p0 := fun _ => rfl }⟩
                        · rw [if_pos (by rfl)]
                          go_simp
                          exact hK.out _ _ ⟨_, _, _, _, _, _, _, _, rfl, { hI with p1 := fun _ => rfl }⟩
                        · rw [if_pos (by rfl)]
                          go_simp
                          exact hK.out _ _ ⟨_, _, _, _, _, _, _, _, rfl, { hI with p2 := fun _ => rfl }⟩
                        · obtain rfl := hI.p2 (hd 2 (by decide))
                          rw [if_pos (by rfl)]
                          go_simp
                          exact hK.out _ _ ⟨_, _, _, _, _, _, _, _, rfl, { hI with p3 := fun _ => rfl }⟩
                        · obtain rfl := hI.p3 (hd 3 (by decide))
                          rw [if_pos (by rfl)]
                          go_simp
                          exact hK.out _ _ ⟨_, _, _, _, _, _, _, _, rfl, { hI with p4 := fun _ => rfl }⟩
                        · obtain rfl := hI.p4 (hd 4 (by decide))
                          rw [if_pos (by rfl)]
                          have hc := HL6.out _ hI.x.kept
                          go_simp
                          exact hK.out _ _ ⟨_, _, _, _, _, _, _, _, rfl, { hI with p5 := fun _ => rfl }⟩
                        · obtain rfl := hI.p0 (hd 0 (by decide))
                          obtain ⟨old, ro, lo, _⟩ := hI.x.r2
                          refine step_store_Row rfl 24 _ _ rfl _ 24 old C7 ro (by rw [lo]; exact l7) rfl rfl (by rw [l7]; kernel_rfl) one7 ?_
                          intro W2 hr2 hs2
                          exact hK.out _ _ ⟨_, _, _, _, _, _, _, _, rfl, { hI with x := (hI.x.st2 hr2 hs2 l7) }⟩
                        · obtain rfl := hI.p1 (hd 1 (by decide))
                          obtain ⟨old, ro, lo, _⟩ := hI.x.r3
                          refine step_store_Row rfl 29 _ _ rfl _ 29 old [nilS, nilS, nilS] ro (by rw [lo]; exact l3n) rfl rfl (by rw [l3n]; kernel_rfl) one3 ?_
                          intro W2 hr2 hs2
                          exact hK.out _ _ ⟨_, _, _, _, _, _, _, _, rfl, { hI with x := (hI.x.st3 hr2 hs2 l3n) }⟩
                        · rw [if_pos (by rfl)]
                          go_simp
                          exact hK.out _ _ ⟨_, _, _, _, _, _, _, _, rfl, { hI with p8 := fun _ => rfl }⟩
                        · obtain rfl := hI.p5 (hd 5 (by decide))
                          rw [if_pos (by rfl)]
                          go_simp
                          exact hK.out _ _ ⟨_, _, _, _, _, _, _, _, rfl, { hI with p9 := fun _ => rfl }⟩
                      · rintro L _ W hall ⟨x109, x110, x111, x112, x113, x114, x4, x5, rfl, hI⟩
                        obtain rfl := hI.p0 (hall 0 (by decide))
                        obtain rfl := hI.p1 (hall 1 (by decide))
                        obtain rfl := hI.p2 (hall 2 (by decide))
                        obtain rfl := hI.p3 (hall 3 (by decide))
                        obtain rfl := hI.p4 (hall 4 (by decide))
                        obtain rfl := hI.p5 (hall 5 (by decide))
                        obtain rfl := hI.p8 (hall 8 (by decide))
                        obtain rfl := hI.p9 (hall 9 (by decide))
                        have hXe := hI.x
                        rw [hall 6 (by decide)] at hXe
                        rw [hall 7 (by decide)] at hXe
                        clear hI hall
                        try dsimp only
                        obtain ⟨o2, s2, _, x2⟩ := hXe.r2
                        obtain ⟨o3, s3, _, x3⟩ := hXe.r3
                        have e2 := x2 rfl
                        have e3 := x3 rfl
                        subst e2
                        subst e3
                        have hbW := HBE.out _ hXe.kept
                        rw [← HC7.out] at s2
                        go_wp2
                        exact bodyPost_ret_by (results_rrtt Tryd.results13 _ _ S (S + 1) 24 29 _ _ _ _ rfl rfl s2 s3 Tryd.underlying24 Tryd.underlying29 rfl rfl (by kernel_rfl) (by kernel_rfl)) rfl (ParP.err HF.out (by rw [HSZ.out]; exact hbW))
                  · obtain rfl : p = NP := by omega
                    have y1 : ¬ (p : Int) < (p : Int) := by omega
                    have HPD := HPL.out.done
                    have cA : w8.cell? ⟨S + 1 + 1, 1, none⟩ = some (.int .i64 (b : Int)) := HRD8.out.cell 1 _ rfl
                    have r2 : Row w8 S 24 cfg0.vals := HK8.out.row HR2.out (by have := HZZ.out; simp; omega)
                    have r3 : Row w8 (S + 1) 29 [nilS, nilS, nilS] := HK8.out.row HR3.out (by have := HZZ.out; simp; omega)
                    have r7 : Row w8 (S + 1 + 1 + 1) 24 cfg0.vals := HK8.out.row HR7.out (by have := HZZ.out; simp; omega)
                    have HBE : Hid (∀ W, KeptL [S, S + 1] w8 W → Below S w W) := fun W h => below_keptL (below_keptL HB3.out HK8.out (fun x hx => by have := HZZ.out; simp at hx; omega) (by have := HZZ.out; omega)) h (fun x hx => by simp at hx; omega) (by have := r2.lt; omega)
                    by_cases hbT : b < T.length
                    · have HF : Hid (parseL T = .error (5, m + 1)) := (HPO.out _ _ b m HPD).2 hbT
                      have z1 : (b : Int) < (T.length : Int) := by omega
                      have HL7 : Hid (∀ W, KeptL [S, S + 1] w8 W → Row W (S + 1 + 1 + 1) 24 cfg0.vals) := fun W h => h.row r7 (by simp; omega)
                      have HL6 : Hid (∀ W, KeptL [S, S + 1] w8 W → W.cell? ⟨S + 1 + 1, 2, none⟩ = some (.int .i64 (m : Int))) := fun W h => (h.row HRD8.out (by simp; omega)).cell 2 _ rfl
                      have wm : IntKind.i64.wrap ((m : Int) + 1) = ((m + 1 : Nat) : Int) := by rw [i64_in _ (by omega) (by omega)]; omega
                      clear HPD HPL HPM8 HRD8 HK8 rC8 r7
                      have one7 : ∀ v ∈ cfg0.vals, Value.oneCell' v = true := by intro v hv; simp [Cfg.vals] at hv; subst hv; rfl
                      have l7 : cfg0.vals.length = 7 := rfl
                      have one3 : ∀ v ∈ ([nilS, nilS, nilS] : List Value), Value.oneCell' v = true := by intro v hv; simp at hv; subst hv; rfl
                      have l3n : ([nilS, nilS, nilS] : List Value).length = 3 := rfl
                      generalize hC7 : cfg0.vals = C7 at *
                      have HC7 : Hid (cfg0.vals = C7) := hC7
                      clear hC7
                      have HZE : Hid (ES w8 S C7 [nilS, nilS, nilS] false false w8.drew) := ES.zero C7 _ r2 l7 r3 rfl
                      go_wp2_with fail
                      refine wp_region_inv (IPa24 w8 S m C7 _ _ _ _ _ _ _ _ _ _ _ _ _ _ _ _ _ _ _ _ _ _ _ _ _ _ _ _ _ _ _ _ _ _ _ _ _ _ _ _ _ _ _ _ _ _ _ _ _ _ _ _ _ _ _ _ _ _ _ _ _ _ _ _ _ _ _ _ _ _ _ _ _ _ _ _ _ _ _ _ _ _ _ _ _ _ _ _ _ _ _ _ _ _ _ _ _ _ _ _ _ _ _ _ _ _ _ _ _ _ _ _ _ _ _ _ _ _ _ _ _ _ _ _ _ _ _ _ _ _ _ _ _ _) (by kernel_rfl) (by kernel_rfl) ⟨_, _, _, _, _, _, _, _, _, rfl, ⟨HZE.out, fun k => (by cases k), fun k => (by cases k), fun k => (by cases k), fun k => (by cases k), fun k => (by cases k), fun k => (by cases k), fun k => (by cases k), fun k => (by cases k), fun k => (by cases k)⟩⟩ ?_ ?_
                      · refine .cons ?_ (.cons ?_ (.cons ?_ (.cons ?_ (.cons ?_ (.cons ?_ (.cons ?_ (.cons ?_ (.cons ?_ (.cons ?_ (.cons ?_ .nil))))))))))
                        all_goals (rintro L _ W ⟨x134, x135, x136, x137, x138, x139, x140, x4, x5, rfl, hI⟩ hL hd K hK)
                        · refine step_load_rng' (by rfl) 24 _ rfl _ 0 C7 (load_agg_at (HL7.out _ hI.x.kept)) rfl _ Tryd.underlying24 rfl (by rw [l7]; kernel_rfl) ?_
                          exact hK.out _ _ ⟨_, _, _, _, _, _, _, _, _, rfl, { hI with p0 := fun _ => rfl }⟩
                        · rw [if_pos (by rfl)]
                          go_simp
                          exact hK.out _ _ ⟨_, _, _, _, _, _, _, _, _, rfl, { hI with p1 := fun _ => rfl }⟩
                        · rw [if_pos (by rfl)]
                          go_simp
                          exact hK.out _ _ ⟨_, _, _, _, _, _, _, _, _, rfl, { hI with p2 := fun _ => rfl }⟩
                        · obtain rfl := hI.p2 (hd 2 (by decide))
                          rw [if_pos (by rfl)]
                          go_simp
                          exact hK.out _ _ ⟨_, _, _, _, _, _, _, _, _, rfl, { hI with p3 := fun _ => rfl }⟩
                        · obtain rfl := hI.p3 (hd 3 (by decide))
                          rw [if_pos (by rfl)]
                          go_simp
                          exact hK.out _ _ ⟨_, _, _, _, _, _, _, _, _, rfl, { hI with p4 := fun _ => rfl }⟩
                        · obtain rfl := hI.p4 (hd 4 (by decide))
                          rw [if_pos (by rfl)]
                          have hc := HL6.out _ hI.x.kept
                          go_simp
                          exact hK.out _ _ ⟨_, _, _, _, _, _, _, _, _, rfl, { hI with p5 := fun _ => rfl }⟩
                        · obtain rfl := hI.p5 (hd 5 (by decide))
                          rw [if_pos (by rfl)]
                          go_simp
                          exact hK.out _ _ ⟨_, _, _, _, _, _, _, _, _, rfl, { hI with p6 := fun _ => rfl }⟩
                        · obtain rfl := hI.p0 (hd 0 (by decide))
                          obtain ⟨old, ro, lo, _⟩ := hI.x.r2
                          refine step_store_Row rfl 24 _ _ rfl _ 24 old C7 ro (by rw [lo]; exact l7) rfl rfl (by rw [l7]; kernel_rfl) one7 ?_
                          intro W2 hr2 hs2
                          exact hK.out _ _ ⟨_, _, _, _, _, _, _, _, _, rfl, { hI with x := (hI.x.st2 hr2 hs2 l7) }⟩
                        · obtain rfl := hI.p1 (hd 1 (by decide))
                          obtain ⟨old, ro, lo, _⟩ := hI.x.r3
                          refine step_store_Row rfl 29 _ _ rfl _ 29 old [nilS, nilS, nilS] ro (by rw [lo]; exact l3n) rfl rfl (by rw [l3n]; kernel_rfl) one3 ?_
                          intro W2 hr2 hs2
                          exact hK.out _ _ ⟨_, _, _, _, _, _, _, _, _, rfl, { hI with x := (hI.x.st3 hr2 hs2 l3n) }⟩
                        · rw [if_pos (by rfl)]
                          go_simp
                          exact hK.out _ _ ⟨_, _, _, _, _, _, _, _, _, rfl, { hI with p9 := fun _ => rfl }⟩
                        · obtain rfl := hI.p6 (hd 6 (by decide))
                          rw [if_pos (by rfl)]
                          go_simp
                          exact hK.out _ _ ⟨_, _, _, _, _, _, _, _, _, rfl, { hI with p10 := fun _ => rfl }⟩
                      · rintro L _ W hall ⟨x134, x135, x136, x137, x138, x139, x140, x4, x5, rfl, hI⟩
                        obtain rfl := hI.p0 (hall 0 (by decide))
                        obtain rfl := hI.p1 (hall 1 (by decide))
                        obtain rfl := hI.p2 (hall 2 (by decide))
                        obtain rfl := hI.p3 (hall 3 (by decide))
                        obtain rfl := hI.p4 (hall 4 (by decide))
                        obtain rfl := hI.p5 (hall 5 (by decide))
                        obtain rfl := hI.p6 (hall 6 (by decide))
                        obtain rfl := hI.p9 (hall 9 (by decide))
                        obtain rfl := hI.p10 (hall 10 (by decide))
                        have hXe := hI.x
                        rw [hall 7 (by decide)] at hXe
                        rw [hall 8 (by decide)] at hXe
                        clear hI hall
                        try dsimp only
                        obtain ⟨o2, s2, _, x2⟩ := hXe.r2
                        obtain ⟨o3, s3, _, x3⟩ := hXe.r3
                        have e2 := x2 rfl
                        have e3 := x3 rfl
                        subst e2
                        subst e3
                        have hbW := HBE.out _ hXe.kept
                        rw [← HC7.out] at s2
                        go_wp2
                        exact bodyPost_ret_by (results_rrtt Tryd.results13 _ _ S (S + 1) 24 29 _ _ _ _ rfl rfl s2 s3 Tryd.underlying24 Tryd.underlying29 rfl rfl (by kernel_rfl) (by kernel_rfl)) rfl (ParP.err HF.out (by rw [HSZ.out]; exact hbW))
                    · have HF : Hid (parseL T = .ok (c, ⟨pgs, ers, bl⟩)) := (HPO.out _ _ b m HPD).1 (by omega)
                      have z1 : ¬ (b : Int) < (T.length : Int) := by omega
                      obtain ⟨XS, hXS⟩ : ∃ XS : List Value, XS = [.slice po pgs.length pc, .slice eo ers.length ec, .slice (some ⟨gB, 0, none⟩) NF NF] := ⟨_, rfl⟩
                      have lXS : XS.length = 3 := by rw [hXS]; rfl
                      have oXS : ∀ v ∈ XS, Value.oneCell' v = true := by rw [hXS]; intro v hv; simp at hv; rcases hv with rfl | rfl | rfl <;> rfl
                      have HLO : Hid (∀ W, KeptL [S, S + 1] w8 W → Row W D2 29 XS) := fun W h => by rw [hXS]; exact h.row HPM8.out.out (by have := HZZ.out; simp; omega)
                      have HLC : Hid (∀ W, KeptL [S, S + 1] w8 W → Row W D 24 CV) := fun W h => h.row rC8 (by have := HZZ.out; simp; omega)
                      have HVW : Hid (∀ W, KeptL [S, S + 1] w8 W → StV W ⟨po, pc, eo, ec, some ⟨gB, 0, none⟩, NF⟩ ⟨pgs, ers, bl⟩) := fun W h => (HPM8.out.kept h (fun x hx => by have := HZZ.out; simp at hx; omega)).view (.inr ⟨gB, 0, rfl, fun j v hj => by rw [Nat.zero_add]; exact (h.row (HK8.out.row HRB.out (by have := HZZ.out; simp; omega)) (by have := HZZ.out; simp; omega)).cell j v hj⟩) NF
                      have HXS : Hid (XS = SV.vals ⟨po, pc, eo, ec, some ⟨gB, 0, none⟩, NF⟩ ⟨pgs, ers, bl⟩) := by
                        show _ = _
                        rw [hXS, ← HBLN.out]; rfl
                      clear HPD HPL HPM8 HRD8 HK8 rC8 r7 hXS
                      have HZE : Hid (ES w8 S CV XS false false w8.drew) := ES.zero _ _ r2 rfl r3 rfl
                      go_wp2_with fail
                      refine wp_region_inv (IPa25 w8 S CV XS _ _ _ _ _ _ _ _ _ _ _ _ _ _ _ _ _ _ _ _ _ _ _ _ _ _ _ _ _ _ _ _ _ _ _ _ _ _ _ _ _ _ _ _ _ _ _ _ _ _ _ _ _ _ _ _ _ _ _ _ _ _ _ _ _ _ _ _ _ _ _ _ _ _ _ _ _ _ _ _ _ _ _ _ _ _ _ _ _ _ _ _ _ _ _ _ _ _ _ _ _ _ _ _ _ _ _ _ _ _ _ _ _ _ _ _ _ _ _ _ _ _ _ _ _ _ _ _ _ _ _ _ _ _ _ _ _ _ _) (by kernel_rfl) (by kernel_rfl) ⟨_, _, _, _, rfl, ⟨HZE.out, fun k => (by cases k), fun k => (by cases k), fun k => (by cases k), fun k => (by cases k)⟩⟩ ?_ ?_
                      · refine .cons ?_ (.cons ?_ (.cons ?_ (.cons ?_ (.cons ?_ (.cons ?_ .nil)))))
                        all_goals (rintro L _ W ⟨x141, x142, x4, x5, rfl, hI⟩ hL hd K hK)
                        · refine step_load_rng' (by rfl) 24 _ rfl _ 0 CV (load_agg_at (HLC.out _ hI.x.kept)) rfl _ Tryd.underlying24 rfl (by rw [lcv]; kernel_rfl) ?_
                          exact hK.out _ _ ⟨_, _, _, _, rfl, { hI with p0 := fun _ => rfl }⟩
                        · refine step_load_rng' (by rfl) 29 _ rfl _ 0 XS (load_agg_at (HLO.out _ hI.x.kept)) rfl _ Tryd.underlying29 rfl (by rw [lXS]; kernel_rfl) ?_
                          exact hK.out _ _ ⟨_, _, _, _, rfl, { hI with p1 := fun _ => rfl }⟩
                        · obtain rfl := hI.p0 (hd 0 (by decide))
                          obtain ⟨old, ro, lo, _⟩ := hI.x.r2
                          refine step_store_Row rfl 24 _ _ rfl _ 24 old CV ro (by rw [lo]; exact lcv) rfl rfl (by rw [lcv]; kernel_rfl) one1 ?_
                          intro W2 hr2 hs2
                          exact hK.out _ _ ⟨_, _, _, _, rfl, { hI with x := (hI.x.st2 hr2 hs2 lcv) }⟩
                        · obtain rfl := hI.p1 (hd 1 (by decide))
                          obtain ⟨old, ro, lo, _⟩ := hI.x.r3
                          refine step_store_Row rfl 29 _ _ rfl _ 29 old XS ro (by rw [lo]; exact lXS) rfl rfl (by rw [lXS]; kernel_rfl) oXS ?_
                          intro W2 hr2 hs2
                          exact hK.out _ _ ⟨_, _, _, _, rfl, { hI with x := (hI.x.st3 hr2 hs2 lXS) }⟩
                        · rw [if_pos (by rfl)]
                          go_simp
                          exact hK.out _ _ ⟨_, _, _, _, rfl, { hI with p4 := fun _ => rfl }⟩
                        · rw [if_pos (by rfl)]
                          go_simp
                          exact hK.out _ _ ⟨_, _, _, _, rfl, { hI with p5 := fun _ => rfl }⟩
                      · rintro L _ W hall ⟨x141, x142, x4, x5, rfl, hI⟩
                        obtain rfl := hI.p0 (hall 0 (by decide))
                        obtain rfl := hI.p1 (hall 1 (by decide))
                        obtain rfl := hI.p4 (hall 4 (by decide))
                        obtain rfl := hI.p5 (hall 5 (by decide))
                        have hXe := hI.x
                        rw [hall 2 (by decide)] at hXe
                        rw [hall 3 (by decide)] at hXe
                        clear hI hall
                        try dsimp only
                        obtain ⟨o2, s2, _, x2⟩ := hXe.r2
                        obtain ⟨o3, s3, _, x3⟩ := hXe.r3
                        have e2 := x2 rfl
                        have e3 := x3 rfl
                        subst e2
                        subst e3
                        have hbW := HBE.out _ hXe.kept
                        have hvW := HVW.out _ hXe.kept
                        go_wp2
                        refine bodyPost_ret_by (results_rrtt Tryd.results13 _ _ S (S + 1) 24 29 _ _ _ _ rfl rfl s2 s3 Tryd.underlying24 Tryd.underlying29 rfl rfl (by rw [lcv]; kernel_rfl) (by rw [lXS]; kernel_rfl)) rfl ?_
                        have := ParP.ok HF.out hvW (by rw [HSZ.out]; exact hbW)
                        unfold Tells4 at this
                        rw [← HXS.out, HCV.out] at this
                        exact this
              · have HF : Hid (parseL T = .error (5, 2)) := by show _ = _; rw [HPC]; simp only [hbs]
                have HRO2 := rO6.set 2 (.slice none 0 0)
                clear HQ2 HQ3 HQ6 HQ7 HQC HQO HB6 HZ6 hb6 HPC hbs rC
                dsimp only
                go_upto_region 13 with fail
                have sb := SameBut.setCell D2 2 (.slice none 0 0) w6
                have r2 : Row (w6.setCell ⟨D2, 2, none⟩ (.slice none 0 0)) S 24 cfg0.vals := HP2.out.but sb (by have := HZ7.out; omega)
                have r3 : Row (w6.setCell ⟨D2, 2, none⟩ (.slice none 0 0)) (S + 1) 29 [nilS, nilS, nilS] := HP3.out.but sb (by have := HZ7.out; omega)
                have r7 : Row (w6.setCell ⟨D2, 2, none⟩ (.slice none 0 0)) (S + 1 + 1 + 1) 24 cfg0.vals := HP7.out.but sb (by have := HZ7.out; omega)
                have HB3 : Hid (Below S w (w6.setCell ⟨D2, 2, none⟩ (.slice none 0 0))) := sb.below HB7.out (by have := HZ7.out; omega)
                generalize w6.setCell ⟨D2, 2, none⟩ (.slice none 0 0) = w7 at *
                clear HP2 HP3 HP6 HP7 HPCc HB7 HZ7 sb cO2 fO2 rO6
                have one7 : ∀ v ∈ cfg0.vals, Value.oneCell' v = true := by intro v hv; simp [Cfg.vals] at hv; subst hv; rfl
                have l7 : cfg0.vals.length = 7 := rfl
                generalize hC7 : cfg0.vals = C7 at *
                have HC7 : Hid (cfg0.vals = C7) := hC7
                clear hC7
                go_wp2_with (first | (refine wpList_load_Row rfl 24 _ rfl _ _ C7 r7 rfl _ Tryd.underlying24 rfl (by rw [l7]; kernel_rfl) ?_) | (refine wpList_store_Row rfl 24 _ _ rfl S 24 0 C7 C7 r2 (by omega) rfl rfl (by rw [l7]; kernel_rfl) one7 ?_; intro w8 hr8 hs8; have r3b := r3.but hs8 (by omega)) | (refine wpList_store_Row rfl 29 _ _ rfl (S + 1) 29 0 [nilS, nilS, nilS] [nilS, nilS, nilS] r3b (by simp) rfl rfl (by kernel_rfl) (by intro v hv; simp at hv; subst hv; rfl) ?_; intro w9 hr9 hs9))
                have q3 := row_whole hr9 (by simp)
                have q2 := (row_whole hr8 (Nat.le_refl _)).but hs9 (by omega)
                have HB9 : Below S w w9 := hs9.below (hs8.below HB3.out (Nat.le_refl _)) (by omega)
                rw [← HC7.out] at q2
                exact bodyPost_ret_by (results_rrtt Tryd.results13 _ _ S (S + 1) 24 29 _ _ _ _ rfl rfl q2 q3 Tryd.underlying24 Tryd.underlying29 rfl rfl (by kernel_rfl) (by kernel_rfl)) rfl (ParP.err HF.out (by rw [HSZ.out]; exact HB9))
            · have HF : Hid (parseL T = .error (5, 2)) := by show _ = _; rw [HPC, hl2]
              have hne : ∀ b, b ≠ S + 1 + 1 → b ∉ [S + 1 + 1] := fun b hb hm => hb (List.mem_singleton.1 hm)
              have HQ2 : Hid (Row w5 S 24 cfg0.vals) := hk5.row HR2.out (hne _ (by omega))
              have HQ3 : Hid (Row w5 (S + 1) 29 [nilS, nilS, nilS]) := hk5.row HR3.out (hne _ (by omega))
              have HQ7 : Hid (Row w5 (S + 1 + 1 + 1) 24 cfg0.vals) := hk5.row HR7.out (hne _ (by omega))
              have rC : Row w5 D 24 CV := hk5.row HRC.out (hne _ (by have := HZ5.out; omega))
              have HQO : Hid (Row w5 D2 29 [nilS, nilS, nilS]) := hk5.row HRO.out (hne _ (by have := HZ5.out; omega))
              have HB6 : Hid (Below S w w5) := below_keptL HB5.out hk5 (fun b hb => by rw [List.mem_singleton.1 hb]; omega) (by have := HZ5.out; omega)
              have HZ6 : Hid (S + 4 ≤ D ∧ D < D2 ∧ D2 < w5.heap.size) := ⟨HZ5.out.1, HZ5.out.2.1, HQO.out.lt⟩
              clear hl2 hr6 hk5 HR2 HR3 HR6 HR7 HRC HRO HB5 HZ5 hne HPC
              dsimp only
              go_wp2_with (refine wpList_load_Row rfl 24 _ rfl _ _ CV rC rfl _ Tryd.underlying24 rfl (by rw [lcv]; kernel_rfl) ?_)
              refine (HBW.out _ [] (by simp)).mono ?_
              rintro e w6 ⟨hbl, hb6⟩
              rcases hbl with ⟨gB, bl, hbs, rfl, hgB, hrB⟩ | ⟨hbs, rfl⟩
              · rw [HBN.out] at hbs
                cases hbs
              · have rO6 : Row w6 D2 29 [nilS, nilS, nilS] := HQO.out.below hb6 HQO.out.lt
                have HP2 : Hid (Row w6 S 24 cfg0.vals) := HQ2.out.below hb6 HQ2.out.lt
                have HP3 : Hid (Row w6 (S + 1) 29 [nilS, nilS, nilS]) := HQ3.out.below hb6 HQ3.out.lt
                have HP7 : Hid (Row w6 (S + 1 + 1 + 1) 24 cfg0.vals) := HQ7.out.below hb6 HQ7.out.lt
                have HB7 : Hid (Below S w w6) := HB6.out.trans (hb6.mono (by have := HZ6.out; omega))
                have HZ7 : Hid (S + 4 ≤ D ∧ D < D2 ∧ D2 < w6.heap.size) := ⟨HZ6.out.1, HZ6.out.2.1, rO6.lt⟩
                have cO2 := rO6.cell 2 (.slice none 0 0) rfl
                have fO2 := rO6.frozen 2
                clear HQ2 HQ3 HQ7 HQO HB6 HZ6 hb6 hbs rC
                dsimp only
                go_upto_region 13 with fail
                have sb := SameBut.setCell D2 2 (.slice none 0 0) w6
                have r2 : Row (w6.setCell ⟨D2, 2, none⟩ (.slice none 0 0)) S 24 cfg0.vals := HP2.out.but sb (by have := HZ7.out; omega)
                have r3 : Row (w6.setCell ⟨D2, 2, none⟩ (.slice none 0 0)) (S + 1) 29 [nilS, nilS, nilS] := HP3.out.but sb (by have := HZ7.out; omega)
                have r7 : Row (w6.setCell ⟨D2, 2, none⟩ (.slice none 0 0)) (S + 1 + 1 + 1) 24 cfg0.vals := HP7.out.but sb (by have := HZ7.out; omega)
                have HB3 : Hid (Below S w (w6.setCell ⟨D2, 2, none⟩ (.slice none 0 0))) := sb.below HB7.out (by have := HZ7.out; omega)
                generalize w6.setCell ⟨D2, 2, none⟩ (.slice none 0 0) = w7 at *
                clear HP2 HP3 HP7 HB7 HZ7 sb cO2 fO2 rO6
                have one7 : ∀ v ∈ cfg0.vals, Value.oneCell' v = true := by intro v hv; simp [Cfg.vals] at hv; subst hv; rfl
                have l7 : cfg0.vals.length = 7 := rfl
                generalize hC7 : cfg0.vals = C7 at *
                have HC7 : Hid (cfg0.vals = C7) := hC7
                clear hC7
                go_wp2_with (first | (refine wpList_load_Row rfl 24 _ rfl _ _ C7 r7 rfl _ Tryd.underlying24 rfl (by rw [l7]; kernel_rfl) ?_) | (refine wpList_store_Row rfl 24 _ _ rfl S 24 0 C7 C7 r2 (by omega) rfl rfl (by rw [l7]; kernel_rfl) one7 ?_; intro w8 hr8 hs8; have r3b := r3.but hs8 (by omega)) | (refine wpList_store_Row rfl 29 _ _ rfl (S + 1) 29 0 [nilS, nilS, nilS] [nilS, nilS, nilS] r3b (by simp) rfl rfl (by kernel_rfl) (by intro v hv; simp at hv; subst hv; rfl) ?_; intro w9 hr9 hs9))
                have q3 := row_whole hr9 (by simp)
                have q2 := (row_whole hr8 (Nat.le_refl _)).but hs9 (by omega)
                have HB9 : Below S w w9 := hs9.below (hs8.below HB3.out (Nat.le_refl _)) (by omega)
                rw [← HC7.out] at q2
                exact bodyPost_ret_by (results_rrtt Tryd.results13 _ _ S (S + 1) 24 29 _ _ _ _ rfl rfl q2 q3 Tryd.underlying24 Tryd.underlying29 rfl rfl (by kernel_rfl) (by kernel_rfl)) rfl (ParP.err HF.out (by rw [HSZ.out]; exact HB9))
          · rw [decide_eq_false hma]
            rw [if_neg hma] at HPC
            have HF : Hid (parseL T = .error (1, 1)) := HPC
            clear HPC hma HMA HCN HVN HNS
            have one7 : ∀ v ∈ cfg0.vals, Value.oneCell' v = true := by intro v hv; simp [Cfg.vals] at hv; subst hv; rfl
            have l7 : cfg0.vals.length = 7 := rfl
            generalize hC7 : cfg0.vals = C7 at *
            have HC7 : Hid (cfg0.vals = C7) := hC7
            clear hC7
            go_wp2_with (first | (refine wpList_load_Row rfl 24 _ rfl _ _ C7 r7 rfl _ Tryd.underlying24 rfl (by rw [l7]; kernel_rfl) ?_) | (refine wpList_store_Row rfl 24 _ _ rfl S 24 0 C7 C7 r2 (by omega) rfl rfl (by rw [l7]; kernel_rfl) one7 ?_; intro w8 hr8 hs8; have r3b := r3.but hs8 (by omega)) | (refine wpList_store_Row rfl 29 _ _ rfl (S + 1) 29 0 [nilS, nilS, nilS] [nilS, nilS, nilS] r3b (by simp) rfl rfl (by kernel_rfl) (by intro v hv; simp at hv; subst hv; rfl) ?_; intro w9 hr9 hs9))
            have q3 := row_whole hr9 (by simp)
            have q2 := (row_whole hr8 (Nat.le_refl _)).but hs9 (by omega)
            have HB9 : Below S w w9 := hs9.below (hs8.below HB3.out (Nat.le_refl _)) (by omega)
            rw [← HC7.out] at q2
            exact bodyPost_ret_by (results_rrtt Tryd.results13 _ _ S (S + 1) 24 29 _ _ _ _ rfl rfl q2 q3 Tryd.underlying24 Tryd.underlying29 rfl rfl (by kernel_rfl) (by kernel_rfl)) rfl (ParP.err HF.out (by rw [HSZ.out]; exact HB9))
      · have e7 : ((L.length : Int) != 7) = true := by rw [bne_iff_ne]; omega
        have HF : Hid (parseL T = .error (5, 1)) := parse_e3 HL.out hvs h7
        clear hvs h7 HL HLL HVN HOL
        generalize L.length = n at *
        have one7 : ∀ v ∈ cfg0.vals, Value.oneCell' v = true := by intro v hv; simp [Cfg.vals] at hv; subst hv; rfl
        have l7 : cfg0.vals.length = 7 := rfl
        generalize hC7 : cfg0.vals = C7 at *
        have HC7 : Hid (cfg0.vals = C7) := hC7
        clear hC7
        go_wp2_with (first | (refine wpList_load_Row rfl 24 _ rfl _ _ C7 r7 rfl _ Tryd.underlying24 rfl (by rw [l7]; kernel_rfl) ?_) | (refine wpList_store_Row rfl 24 _ _ rfl S 24 0 C7 C7 r2 (by omega) rfl rfl (by rw [l7]; kernel_rfl) one7 ?_; intro w8 hr8 hs8; have r3b := r3.but hs8 (by omega)) | (refine wpList_store_Row rfl 29 _ _ rfl (S + 1) 29 0 [nilS, nilS, nilS] [nilS, nilS, nilS] r3b (by simp) rfl rfl (by kernel_rfl) (by intro v hv; simp at hv; subst hv; rfl) ?_; intro w9 hr9 hs9))
        have q3 := row_whole hr9 (by simp)
        have q2 := (row_whole hr8 (Nat.le_refl _)).but hs9 (by omega)
        have HB9 : Below S w w9 := hs9.below (hs8.below HB3.out (Nat.le_refl _)) (by omega)
        rw [← HC7.out] at q2
        exact bodyPost_ret_by (results_rrtt Tryd.results13 _ _ S (S + 1) 24 29 _ _ _ _ rfl rfl q2 q3 Tryd.underlying24 Tryd.underlying29 rfl rfl (by kernel_rfl) (by kernel_rfl)) rfl (ParP.err HF.out (by rw [HSZ.out]; exact HB9))
    · have HF : Hid (parseL T = .error (5, 1)) := parse_e2 HL.out hvs
      clear hvs hb3 HR2b HR3b HR6b HR7b HB2 HZ2 HL HLL HVN
      dsimp only
      have one7 : ∀ v ∈ cfg0.vals, Value.oneCell' v = true := by intro v hv; simp [Cfg.vals] at hv; subst hv; rfl
      have l7 : cfg0.vals.length = 7 := rfl
      generalize hC7 : cfg0.vals = C7 at *
      have HC7 : Hid (cfg0.vals = C7) := hC7
      clear hC7
      go_wp2_with (first | (refine wpList_load_Row rfl 24 _ rfl _ _ C7 r7 rfl _ Tryd.underlying24 rfl (by rw [l7]; kernel_rfl) ?_) | (refine wpList_store_Row rfl 24 _ _ rfl S 24 0 C7 C7 r2 (by omega) rfl rfl (by rw [l7]; kernel_rfl) one7 ?_; intro w8 hr8 hs8; have r3b := r3.but hs8 (by omega)) | (refine wpList_store_Row rfl 29 _ _ rfl (S + 1) 29 0 [nilS, nilS, nilS] [nilS, nilS, nilS] r3b (by simp) rfl rfl (by kernel_rfl) (by intro v hv; simp at hv; subst hv; rfl) ?_; intro w9 hr9 hs9))
      have q3 := row_whole hr9 (by simp)
      have q2 := (row_whole hr8 (Nat.le_refl _)).but hs9 (by omega)
      have HB9 : Below S w w9 := hs9.below (hs8.below HB3.out (Nat.le_refl _)) (by omega)
      rw [← HC7.out] at q2
      exact bodyPost_ret_by (results_rrtt Tryd.results13 _ _ S (S + 1) 24 29 _ _ _ _ rfl rfl q2 q3 Tryd.underlying24 Tryd.underlying29 rfl rfl (by kernel_rfl) (by kernel_rfl)) rfl (ParP.err HF.out (by rw [HSZ.out]; exact HB9))
  · have HF : Hid (parseL T = .error (5, 1)) := parse_e1 hl
    have HR2b : Hid (Row w2 S 24 cfg0.vals) := hk2.row HR2.out (by simp; omega)
    have HR3b : Hid (Row w2 (S + 1) 29 [nilS, nilS, nilS]) := hk2.row HR3.out (by simp)
    have HR7b : Hid (Row w2 (S + 1 + 1 + 1) 24 cfg0.vals) := hk2.row HR7.out (by simp)
    have HB2 : Hid (Below S w w2) := below_keptL HB1.out hk2 (fun b hb => by rw [List.mem_singleton.1 hb]; omega) (by have := HZ1.out; omega)
    have HZ2 : Hid (S + 4 ≤ w2.heap.size) := by have := HZ1.out; have := hk2.size; show _ ≤ _; omega
    clear hl hr6 hk2 HR2 HR3 HR6 HR7 HB1 HZ1
    dsimp only
    go_wp2_with fail
    refine (HVS.out _ [] (by simp)).mono ?_
    rintro e w3 ⟨hv, hb3⟩
    rcases hv with ⟨v, L, hvs, rfl, ho⟩ | ⟨hvs, rfl⟩
    · rw [HVN.out] at hvs
      cases hvs
    · have r2 : Row w3 S 24 cfg0.vals := HR2b.out.below hb3 HR2b.out.lt
      have r3 : Row w3 (S + 1) 29 [nilS, nilS, nilS] := HR3b.out.below hb3 HR3b.out.lt
      have r7 : Row w3 (S + 1 + 1 + 1) 24 cfg0.vals := HR7b.out.below hb3 HR7b.out.lt
      have HB3 : Hid (Below S w w3) := HB2.out.trans (hb3.mono (by have := HZ2.out; omega))
      clear hvs hb3 HR2b HR3b HR7b HB2 HZ2
      dsimp only
      have one7 : ∀ v ∈ cfg0.vals, Value.oneCell' v = true := by intro v hv; simp [Cfg.vals] at hv; subst hv; rfl
      have l7 : cfg0.vals.length = 7 := rfl
      generalize hC7 : cfg0.vals = C7 at *
      have HC7 : Hid (cfg0.vals = C7) := hC7
      clear hC7
      go_wp2_with (first | (refine wpList_load_Row rfl 24 _ rfl _ _ C7 r7 rfl _ Tryd.underlying24 rfl (by rw [l7]; kernel_rfl) ?_) | (refine wpList_store_Row rfl 24 _ _ rfl S 24 0 C7 C7 r2 (by omega) rfl rfl (by rw [l7]; kernel_rfl) one7 ?_; intro w8 hr8 hs8; have r3b := r3.but hs8 (by omega)) | (refine wpList_store_Row rfl 29 _ _ rfl (S + 1) 29 0 [nilS, nilS, nilS] [nilS, nilS, nilS] r3b (by simp) rfl rfl (by kernel_rfl) (by intro v hv; simp at hv; subst hv; rfl) ?_; intro w9 hr9 hs9))
      have q3 := row_whole hr9 (by simp)
      have q2 := (row_whole hr8 (Nat.le_refl _)).but hs9 (by omega)
      have HB9 : Below S w w9 := hs9.below (hs8.below HB3.out (Nat.le_refl _)) (by omega)
      rw [← HC7.out] at q2
      exact bodyPost_ret_by (results_rrtt Tryd.results13 _ _ S (S + 1) 24 29 _ _ _ _ rfl rfl q2 q3 Tryd.underlying24 Tryd.underlying29 rfl rfl (by kernel_rfl) (by kernel_rfl)) rfl (ParP.err HF.out (by rw [HSZ.out]; exact HB9))
end Go.Proofs.YtgpnbiaghokjkaaDoor
