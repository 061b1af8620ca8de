
import Derived.Test.YtdfbfheceobboaaDoorP25Jc
/-! The code's patch: a copy of bytes; two parts as one; parts that were joined, in memory. (Printed by tools/genc25.py.) -/
namespace Go.Proofs.YtdfbfheceobboaaDoor
open Go.RowKit
set_option linter.unusedVariables false
set_option linter.unusedSimpArgs false
set_option maxRecDepth 100000

def ClnP (w : World) (n : Nat) (b : List By) (e : Ending) (w' : World) : Prop := ∃ C c, e = .returned (.slice (some ⟨C, 0, none⟩) n c) ∧ Own w.heap.size w' (.slice (some ⟨C, 0, none⟩) n c) b ∧ Below w.heap.size w w'
set_option maxHeartbeats 1000000 in
theorem cclone_any (w : World) (B off n c : Nat) (b : List By) (hb : b.length = n) (hn : 1 ≤ n) (hm : n ≤ 1000000) (hi : IsB w (some ⟨B, off, none⟩) b) : Calls Tryd.prog 43 #[.slice (some ⟨B, off, none⟩) n c] w (ClnP w n b) := by
  have qe : ∀ (w : World) (a : Option Addr) (n c n' c' : Nat), (binOp .eql 22 (.slice a n c) (.slice none n' c')).run Tryd.prog w = .ok (.bool a.isNone) w := fun w a n c n' c' => Lib.run_eql_slice_nil w _ _ a n c n' c' Tryd.underlying22
  have b1 : Below w.heap.size w (w.alloc (.cells #[] 5)) := (Below.refl _ _).alloc (Nat.le_refl _) _
  have O1 : Hid (Own w.heap.size (w.alloc (.cells #[] 5)) (.slice (some ⟨w.heap.size, 0, none⟩) 0 0) []) := own_empty w.heap.size w (Nat.le_refl _) #[] rfl
  have IL : Hid (IsB (w.alloc (.cells #[] 5)) (some ⟨B, off, none⟩) b) := hi.below b1 (Nat.le_refl _)
  have B1 : Hid (Below w.heap.size w (w.alloc (.cells #[] 5))) := b1
  have HL : Hid (b.length = n) := hb
  clear hi b1 hb
  go_enter Tryd.func43, Tryd.ntmps43
  go_wp2_with (at_builtin; refine wpList_append_grw rfl (.tmp 5) (.tmp 6) rfl w.heap.size (some ⟨w.heap.size, 0, none⟩) 0 0 [] rfl O1.out B off n c b rfl HL.out IL.out (by omega) (by omega) ?_; intro ao2 c2 w2 ho2 hg2; have H2 : Hid (Own w.heap.size w2 (.slice ao2 n c2) b ∧ Below w.heap.size w w2) := ⟨by rw [Nat.zero_add] at ho2; exact ho2, B1.out.trans hg2.bel⟩; clear ho2 hg2)
  obtain ⟨C, rfl, _⟩ := H2.out.1.at (by omega)
  go_ret
  exact ⟨C, c2, by simp, H2.out.1, H2.out.2⟩
structure AO4 (W1 : World) (G f n f2 n2 nn : Nat) (L : Nat → Bool) (x13 x14 x15 x16 x17 x18 x19 x20 x21 x4 : Value) (W : World) : Prop where
  x : Below W1.heap.size W1 W
  p0 : L 0 = true → x13 = .pointer (some ⟨G, 0, none⟩)
  p1 : L 1 = true → x14 = .int .i64 (f : Int)
  p2 : L 2 = true → x15 = .pointer (some ⟨G, 1, none⟩)
  p3 : L 3 = true → x16 = .int .i64 (n : Int)
  p4 : L 4 = true → x17 = .iface 66 (.agg #[.int .i64 (f2 : Int), .int .i64 (n2 : Int)])
  p5 : L 5 = true → x18 = .int .i64 (n2 : Int)
  p6 : L 6 = true → x19 = .int .i64 (nn : Int)
  p7 : L 7 = true → x20 = .agg #[.int .i64 (f : Int), .int .i64 (nn : Int)]
  p8 : L 8 = true → x21 = .iface 66 (.agg #[.int .i64 (f : Int), .int .i64 (nn : Int)])
  p9 : L 9 = true → x4 = .iface 66 (.agg #[.int .i64 (f : Int), .int .i64 (nn : Int)])
section
variable {W1 : World} {G f n f2 n2 nn : Nat} {L : Nat → Bool} {x13 x14 x15 x16 x17 x18 x19 x20 x21 x4 : Value} {W W2 : World}
theorem AO4.s0 (h : AO4 W1 G f n f2 n2 nn L x13 x14 x15 x16 x17 x18 x19 x20 x21 x4 W) : AO4 W1 G f n f2 n2 nn (upd L 0) (.pointer (some ⟨G, 0, none⟩)) x14 x15 x16 x17 x18 x19 x20 x21 x4 W :=
  ⟨h.x, fun _ => rfl, h.p1, h.p2, h.p3, h.p4, h.p5, h.p6, h.p7, h.p8, h.p9⟩
theorem AO4.s1 (h : AO4 W1 G f n f2 n2 nn L x13 x14 x15 x16 x17 x18 x19 x20 x21 x4 W) : AO4 W1 G f n f2 n2 nn (upd L 1) x13 (.int .i64 (f : Int)) x15 x16 x17 x18 x19 x20 x21 x4 W :=
  ⟨h.x, h.p0, fun _ => rfl, h.p2, h.p3, h.p4, h.p5, h.p6, h.p7, h.p8, h.p9⟩
theorem AO4.s2 (h : AO4 W1 G f n f2 n2 nn L x13 x14 x15 x16 x17 x18 x19 x20 x21 x4 W) : AO4 W1 G f n f2 n2 nn (upd L 2) x13 x14 (.pointer (some ⟨G, 1, none⟩)) x16 x17 x18 x19 x20 x21 x4 W :=
  ⟨h.x, h.p0, h.p1, fun _ => rfl, h.p3, h.p4, h.p5, h.p6, h.p7, h.p8, h.p9⟩
theorem AO4.s3 (h : AO4 W1 G f n f2 n2 nn L x13 x14 x15 x16 x17 x18 x19 x20 x21 x4 W) : AO4 W1 G f n f2 n2 nn (upd L 3) x13 x14 x15 (.int .i64 (n : Int)) x17 x18 x19 x20 x21 x4 W :=
  ⟨h.x, h.p0, h.p1, h.p2, fun _ => rfl, h.p4, h.p5, h.p6, h.p7, h.p8, h.p9⟩
theorem AO4.s4 (h : AO4 W1 G f n f2 n2 nn L x13 x14 x15 x16 x17 x18 x19 x20 x21 x4 W) : AO4 W1 G f n f2 n2 nn (upd L 4) x13 x14 x15 x16 (.iface 66 (.agg #[.int .i64 (f2 : Int), .int .i64 (n2 : Int)])) x18 x19 x20 x21 x4 W :=
  ⟨h.x, h.p0, h.p1, h.p2, h.p3, fun _ => rfl, h.p5, h.p6, h.p7, h.p8, h.p9⟩
theorem AO4.s5 (h : AO4 W1 G f n f2 n2 nn L x13 x14 x15 x16 x17 x18 x19 x20 x21 x4 W) (hX : Below W1.heap.size W1 W2) : AO4 W1 G f n f2 n2 nn (upd L 5) x13 x14 x15 x16 x17 (.int .i64 (n2 : Int)) x19 x20 x21 x4 W2 :=
  ⟨hX, h.p0, h.p1, h.p2, h.p3, h.p4, fun _ => rfl, h.p6, h.p7, h.p8, h.p9⟩
theorem AO4.s6 (h : AO4 W1 G f n f2 n2 nn L x13 x14 x15 x16 x17 x18 x19 x20 x21 x4 W) : AO4 W1 G f n f2 n2 nn (upd L 6) x13 x14 x15 x16 x17 x18 (.int .i64 (nn : Int)) x20 x21 x4 W :=
  ⟨h.x, h.p0, h.p1, h.p2, h.p3, h.p4, h.p5, fun _ => rfl, h.p7, h.p8, h.p9⟩
theorem AO4.s7 (h : AO4 W1 G f n f2 n2 nn L x13 x14 x15 x16 x17 x18 x19 x20 x21 x4 W) : AO4 W1 G f n f2 n2 nn (upd L 7) x13 x14 x15 x16 x17 x18 x19 (.agg #[.int .i64 (f : Int), .int .i64 (nn : Int)]) x21 x4 W :=
  ⟨h.x, h.p0, h.p1, h.p2, h.p3, h.p4, h.p5, h.p6, fun _ => rfl, h.p8, h.p9⟩
theorem AO4.s8 (h : AO4 W1 G f n f2 n2 nn L x13 x14 x15 x16 x17 x18 x19 x20 x21 x4 W) : AO4 W1 G f n f2 n2 nn (upd L 8) x13 x14 x15 x16 x17 x18 x19 x20 (.iface 66 (.agg #[.int .i64 (f : Int), .int .i64 (nn : Int)])) x4 W :=
  ⟨h.x, h.p0, h.p1, h.p2, h.p3, h.p4, h.p5, h.p6, h.p7, fun _ => rfl, h.p9⟩
theorem AO4.s9 (h : AO4 W1 G f n f2 n2 nn L x13 x14 x15 x16 x17 x18 x19 x20 x21 x4 W) : AO4 W1 G f n f2 n2 nn (upd L 9) x13 x14 x15 x16 x17 x18 x19 x20 x21 (.iface 66 (.agg #[.int .i64 (f : Int), .int .i64 (nn : Int)])) W :=
  ⟨h.x, h.p0, h.p1, h.p2, h.p3, h.p4, h.p5, h.p6, h.p7, h.p8, fun _ => rfl⟩
end
@[reducible] def IAO4 (W1 : World) (G f n f2 n2 nn : Nat) (y0 y1 y2 y3 y5 y6 y7 y8 y9 y10 y11 y12 y22 y23 y24 y25 y26 y27 y28 y29 y30 y31 y32 y33 y34 y35 y36 y37 : Value) : (Nat → Bool) → Act → World → Prop := fun L a W => ∃ x13 x14 x15 x16 x17 x18 x19 x20 x21 x4, a = ⟨#[y0, y1, y2, y3, x4, y5, y6, y7, y8, y9, y10, y11, y12, x13, x14, x15, x16, x17, x18, x19, x20, x21, y22, y23, y24, y25, y26, y27, y28, y29, y30, y31, y32, y33, y34, y35, y36, y37], []⟩ ∧ AO4 W1 G f n f2 n2 nn L x13 x14 x15 x16 x17 x18 x19 x20 x21 x4 W
theorem AO4.step {W1 : World} {G f n f2 n2 nn : Nat} {y0 y1 y2 y3 y5 y6 y7 y8 y9 y10 y11 y12 y22 y23 y24 y25 y26 y27 y28 y29 y30 y31 y32 y33 y34 y35 y36 y37 : Value} {P : Program} {ops : Array Oper} {Q : Exit → Act → World → Prop} {i : Nat} {o : Oper} (hq : ∀ x13 x14 x15 x16 x17 x18 x19 x20 x21 x4 (L : Nat → Bool) (W : World), AO4 W1 G f n f2 n2 nn L x13 x14 x15 x16 x17 x18 x19 x20 x21 x4 W → L i = false → (∀ j ∈ onesOf o, L j = true) → ∀ K : Act → World → Prop, Shut (∀ a' w', IAO4 W1 G f n f2 n2 nn y0 y1 y2 y3 y5 y6 y7 y8 y9 y10 y11 y12 y22 y23 y24 y25 y26 y27 y28 y29 y30 y31 y32 y33 y34 y35 y36 y37 (upd L i) a' w' → K a' w') → if Region.wanted o (yielded ops (⟨#[y0, y1, y2, y3, x4, y5, y6, y7, y8, y9, y10, y11, y12, x13, x14, x15, x16, x17, x18, x19, x20, x21, y22, y23, y24, y25, y26, y27, y28, y29, y30, y31, y32, y33, y34, y35, y36, y37], []⟩ : Act).tmps) = true then Oper.wp P o ⟨#[y0, y1, y2, y3, x4, y5, y6, y7, y8, y9, y10, y11, y12, x13, x14, x15, x16, x17, x18, x19, x20, x21, y22, y23, y24, y25, y26, y27, y28, y29, y30, y31, y32, y33, y34, y35, y36, y37], []⟩ W K Q else K ((⟨#[y0, y1, y2, y3, x4, y5, y6, y7, y8, y9, y10, y11, y12, x13, x14, x15, x16, x17, x18, x19, x20, x21, y22, y23, y24, y25, y26, y27, y28, y29, y30, y31, y32, y33, y34, y35, y36, y37], []⟩ : Act).put o.dst undef) W) : StepI P ops (IAO4 W1 G f n f2 n2 nn y0 y1 y2 y3 y5 y6 y7 y8 y9 y10 y11 y12 y22 y23 y24 y25 y26 y27 y28 y29 y30 y31 y32 y33 y34 y35 y36 y37) Q i o := by
  rintro L a W ⟨x13, x14, x15, x16, x17, x18, x19, x20, x21, x4, rfl, h⟩
  exact hq _ _ _ _ _ _ _ _ _ _ _ _ h
theorem AO4.ends {W1 : World} {G f n f2 n2 nn : Nat} {y0 y1 y2 y3 y5 y6 y7 y8 y9 y10 y11 y12 y22 y23 y24 y25 y26 y27 y28 y29 y30 y31 y32 y33 y34 y35 y36 y37 : Value} {mm_ : Nat} {Q : Exit → Act → World → Prop} (hq : ∀ x13 x14 x15 x16 x17 x18 x19 x20 x21 x4 (L : Nat → Bool) (W : World), (∀ j, j < mm_ → L j = true) → AO4 W1 G f n f2 n2 nn L x13 x14 x15 x16 x17 x18 x19 x20 x21 x4 W → Q .normal ⟨#[y0, y1, y2, y3, x4, y5, y6, y7, y8, y9, y10, y11, y12, x13, x14, x15, x16, x17, x18, x19, x20, x21, y22, y23, y24, y25, y26, y27, y28, y29, y30, y31, y32, y33, y34, y35, y36, y37], []⟩ W) : ∀ L a' w', (∀ j, j < mm_ → L j = true) → IAO4 W1 G f n f2 n2 nn y0 y1 y2 y3 y5 y6 y7 y8 y9 y10 y11 y12 y22 y23 y24 y25 y26 y27 y28 y29 y30 y31 y32 y33 y34 y35 y36 y37 L a' w' → Q .normal a' w' := by
  rintro L a W hall ⟨x13, x14, x15, x16, x17, x18, x19, x20, x21, x4, rfl, h⟩
  exact hq _ _ _ _ _ _ _ _ _ _ _ _ hall h
set_option maxHeartbeats 1000000 in
theorem asone_ss (f n f2 n2 : Nat) (w : World) (h1 : n + n2 ≤ 4000000) : Calls Tryd.prog 42 #[spV f n, spV f2 n2] w fun e w' => e = .returned (spV f (n + n2)) ∧ Below w.heap.size w w' := by
  have TA0 : ∀ W, Sem.run Tryd.prog (Instr.typeAssert (.iface 66 (.agg #[.int .i64 (f : Int), .int .i64 (n : Int)])) 54 66 true) W = .ok (.tuple #[.agg #[.int .i64 (f : Int), .int .i64 (n : Int)], .bool true]) W := fun W => by kernel_rfl
  have M1 := mSize_s
  have FZ : Hid (∀ W, Calls Tryd.prog 92 #[.agg #[.int .i64 (f2 : Int), .int .i64 (n2 : Int)]] W fun e w' => e = .returned (.int .i64 (n2 : Int)) ∧ Below W.heap.size W w') := fun W => ssize_any f2 n2 W
  have z1 : IntKind.i64.wrap ((n : Int) + (n2 : Int)) = ((n + n2 : Nat) : Int) := by rw [i64_in _ (by omega) (by omega)]; push_cast; rfl
  obtain ⟨W0, hW0⟩ : ∃ W0, W0 = w.alloc (.cells #[.int .i64 (f : Int), .int .i64 (n : Int)] 66) := ⟨_, rfl⟩
  have r0 : Row W0 w.heap.size 66 [.int .i64 (f : Int), .int .i64 (n : Int)] := by rw [hW0]; exact Row.at w _ _ _ _ rfl rfl
  have B0 : Hid (Below w.heap.size w W0) := by show Below _ _ _; rw [hW0]; exact (Below.refl _ _).alloc (Nat.le_refl _) _
  have CC : Hid (∀ W, Below W0.heap.size W0 W → W.cell? ⟨w.heap.size, 0, none⟩ = some (.int .i64 (f : Int)) ∧ W.cell? ⟨w.heap.size, 1, none⟩ = some (.int .i64 (n : Int))) := fun W hW => ⟨(r0.below hW r0.lt).cell 0 _ rfl, (r0.below hW r0.lt).cell 1 _ rfl⟩
  have HE : Hid (∀ W, Below W0.heap.size W0 W → Below w.heap.size w W) := fun W hW => B0.out.trans (hW.mono B0.out.size)
  clear r0 B0
  generalize hG : w.heap.size = G at *
  generalize hnn : n + n2 = nn at *
  go_enter Tryd.func42, Tryd.ntmps42
  go_upto_region 4 with fail
  rw [← hW0]
  clear hW0 hnn hG
  try dsimp only [Act.put]
  refine wp_region_inv (IAO4 W0 G f n f2 n2 nn _ _ _ _ _ _ _ _ _ _ _ _ _ _ _ _ _ _ _ _ _ _ _ _ _ _ _ _) (by kernel_rfl) (by kernel_rfl) ⟨_, _, _, _, _, _, _, _, _, _, rfl, ⟨(Below.refl _ _).drew, fun k => (by cases k), fun k => (by cases k), fun k => (by cases k), fun k => (by cases k), fun k => (by cases k), fun k => (by cases k), fun k => (by cases k), fun k => (by cases k), fun k => (by cases k), fun k => (by cases k)⟩⟩ ?_ ?_
  · refine .cons ?_ (.cons ?_ (.cons ?_ (.cons ?_ (.cons ?_ (.cons ?_ (.cons ?_ (.cons ?_ (.cons ?_ (.cons ?_ .nil)))))))))
    all_goals (refine AO4.step ?_; intro x13 x14 x15 x16 x17 x18 x19 x20 x21 x4 L W hI hL hd K hK)
    · rw [if_pos (by rfl)]
      go_simp
      exact hK.out _ _ ⟨_, _, _, _, _, _, _, _, _, _, rfl, hI.s0⟩
    · have hx0 := hI.p0 (hd 0 (by decide))
      subst hx0
      rw [if_pos (by rfl)]
      have hc := (CC.out _ hI.x).1
      go_simp
      exact hK.out _ _ ⟨_, _, _, _, _, _, _, _, _, _, rfl, hI.s1⟩
    · rw [if_pos (by rfl)]
      go_simp
      exact hK.out _ _ ⟨_, _, _, _, _, _, _, _, _, _, rfl, hI.s2⟩
    · have hx2 := hI.p2 (hd 2 (by decide))
      subst hx2
      rw [if_pos (by rfl)]
      have hc := (CC.out _ hI.x).2
      go_simp
      exact hK.out _ _ ⟨_, _, _, _, _, _, _, _, _, _, rfl, hI.s3⟩
    · rw [if_pos (by rfl)]
      go_simp
      exact hK.out _ _ ⟨_, _, _, _, _, _, _, _, _, _, rfl, hI.s4⟩
    · have hx4 := hI.p4 (hd 4 (by decide))
      subst hx4
      rw [if_pos (by rfl)]
      go_simp
      refine (FZ.out W).mono ?_
      rintro e W2 ⟨rfl, b2⟩
      go_simp
      have hX := hI.x.trans (b2.mono hI.x.size)
      exact hK.out _ _ ⟨_, _, _, _, _, _, _, _, _, _, rfl, hI.s5 hX⟩
    · have hx3 := hI.p3 (hd 3 (by decide))
      subst hx3
      have hx5 := hI.p5 (hd 5 (by decide))
      subst hx5
      rw [if_pos (by rfl)]
      have hz1 := z1
      go_simp
      exact hK.out _ _ ⟨_, _, _, _, _, _, _, _, _, _, rfl, hI.s6⟩
    · have hx1 := hI.p1 (hd 1 (by decide))
      subst hx1
      have hx6 := hI.p6 (hd 6 (by decide))
      subst hx6
      rw [if_pos (by rfl)]
      go_simp
      exact hK.out _ _ ⟨_, _, _, _, _, _, _, _, _, _, rfl, hI.s7⟩
    · have hx7 := hI.p7 (hd 7 (by decide))
      subst hx7
      rw [if_pos (by rfl)]
      go_simp
      exact hK.out _ _ ⟨_, _, _, _, _, _, _, _, _, _, rfl, hI.s8⟩
    · have hx8 := hI.p8 (hd 8 (by decide))
      subst hx8
      rw [if_pos (by rfl)]
      go_simp
      exact hK.out _ _ ⟨_, _, _, _, _, _, _, _, _, _, rfl, hI.s9⟩
  · refine AO4.ends ?_; intro x13 x14 x15 x16 x17 x18 x19 x20 x21 x4 L W hall hI
    have hx0 := hI.p0 (hall 0 (by decide))
    subst hx0
    have hx1 := hI.p1 (hall 1 (by decide))
    subst hx1
    have hx2 := hI.p2 (hall 2 (by decide))
    subst hx2
    have hx3 := hI.p3 (hall 3 (by decide))
    subst hx3
    have hx4 := hI.p4 (hall 4 (by decide))
    subst hx4
    have hx5 := hI.p5 (hall 5 (by decide))
    subst hx5
    have hx6 := hI.p6 (hall 6 (by decide))
    subst hx6
    have hx7 := hI.p7 (hall 7 (by decide))
    subst hx7
    have hx8 := hI.p8 (hall 8 (by decide))
    subst hx8
    have hx9 := hI.p9 (hall 9 (by decide))
    subst hx9
    have hXe := hI.x
    clear hI hall
    try dsimp only
    have H2 : Hid (Below G w W) := HE.out _ hXe
    clear hXe
    go_wp2
    go_ret
    exact ⟨by first | rfl | (unfold spV; push_cast; rfl), H2.out⟩
def AoP (N : Nat) (bo : Option Addr) (w : World) (m : Nat) (M : List By) (e : Ending) (w' : World) : Prop := ∃ B c, e = .returned (layV (some ⟨B, 0, none⟩) m c) ∧ Own N w' (.slice (some ⟨B, 0, none⟩) m c) M ∧ Grw N bo (some ⟨B, 0, none⟩) w w'
set_option maxHeartbeats 1000000 in
theorem asone_ll (N B n c : Nat) (a : List By) (B2 off2 n2 c2 : Nat) (b : List By) (w : World) (ho : Own N w (.slice (some ⟨B, 0, none⟩) n c) a) (hb : b.length = n2) (hi : IsB w (some ⟨B2, off2, none⟩) b) (hn : 1 ≤ n2) (hm : n + n2 ≤ 4000000) : Calls Tryd.prog 42 #[layV (some ⟨B, 0, none⟩) n c, layV (some ⟨B2, off2, none⟩) n2 c2] w (AoP N (some ⟨B, 0, none⟩) w (n + n2) (a ++ b)) := by
  have TA0 : ∀ W, Sem.run Tryd.prog (Instr.typeAssert (.iface 63 (.agg #[.slice (some ⟨B, 0, none⟩) n c])) 54 66 true) W = .ok (.tuple #[.agg #[.int .i64 0, .int .i64 0], .bool false]) W := fun W => by kernel_rfl
  have TA1 : ∀ W, Sem.run Tryd.prog (Instr.typeAssert (.iface 63 (.agg #[.slice (some ⟨B, 0, none⟩) n c])) 54 63 true) W = .ok (.tuple #[.agg #[.slice (some ⟨B, 0, none⟩) n c], .bool true]) W := fun W => by kernel_rfl
  have TA2 : ∀ W, Sem.run Tryd.prog (Instr.typeAssert (.iface 63 (.agg #[.slice (some ⟨B2, off2, none⟩) n2 c2])) 54 63 true) W = .ok (.tuple #[.agg #[.slice (some ⟨B2, off2, none⟩) n2 c2], .bool true]) W := fun W => by kernel_rfl
  obtain ⟨W0, hW0⟩ : ∃ W0, W0 = (w.alloc (.cells #[.slice (some ⟨B, 0, none⟩) n c] 63)).alloc (.cells #[.slice (some ⟨B2, off2, none⟩) n2 c2] 63) := ⟨_, rfl⟩
  have hb0 : Below w.heap.size w W0 := by rw [hW0]; exact ((Below.refl _ _).alloc (Nat.le_refl _) _).alloc (by simp) _
  have HO : Hid (Own N W0 (.slice (some ⟨B, 0, none⟩) n c) a) := ho.keep hb0
  have HB : Hid (IsB W0 (some ⟨B2, off2, none⟩) b) := hi.below hb0 (Nat.le_refl _)
  have HG : Hid (Grw N (some ⟨B, 0, none⟩) (some ⟨B, 0, none⟩) w W0) := .of_below hb0 ho.2
  have HL : Hid (b.length = n2) := hb
  have HA : Hid (∀ ao c' W, Own N W (.slice ao (n + n2) c') (a ++ b) → ∃ g, ao = some ⟨g, 0, none⟩) := fun ao c' W h => let ⟨g, e, _⟩ := h.at (by omega); ⟨g, e⟩
  clear ho hi hb0 hb
  subst hW0
  go_enter Tryd.func42, Tryd.ntmps42
  go_wp2_with (at_builtin; refine wpList_append_grw rfl (.tmp 31) (.tmp 33) rfl N (some ⟨B, 0, none⟩) n c a rfl HO.out B2 off2 n2 c2 b rfl HL.out HB.out (by omega) (by omega) ?_; intro ao2 c3 w2 ho2 hg2; have H2 : Hid (Own N w2 (.slice ao2 (n + n2) c3) (a ++ b) ∧ Grw N (some ⟨B, 0, none⟩) ao2 w w2) := ⟨ho2, HG.out.trans hg2⟩; clear ho2 hg2)
  obtain ⟨g, rfl⟩ := HA.out _ _ _ H2.out.1
  go_ret
  exact ⟨g, c3, rfl, H2.out.1, H2.out.2⟩
/-- A lay's block. -/
def LayAt (v : Value) (B : Nat) : Prop := ∃ n c, v = layV (some ⟨B, 0, none⟩) n c
/-- A part that was joined: a lay's bytes lie in a block of their own. -/
structure OuV (N : Nat) (W : World) (y : Pt) (v : Value) : Prop where
  eq : (y.lay = false ∧ v = spV y.frm y.n) ∨ (y.lay = true ∧ ∃ B c, v = layV (some ⟨B, 0, none⟩) y.n c ∧ Own N W (.slice (some ⟨B, 0, none⟩) y.n c) y.b)
theorem OuV.keep {N : Nat} {W W2 : World} {y : Pt} {v : Value} (h : OuV N W y v) (hb : Below W.heap.size W W2) : OuV N W2 y v := by
  rcases h.eq with h | ⟨h1, B, c, h2, h3⟩
  · exact ⟨.inl h⟩
  · exact ⟨.inr ⟨h1, B, c, h2, h3.keep hb⟩⟩
theorem layV_blk0 {B B' n c n' c' : Nat} (h : layV (some ⟨B, 0, none⟩) n c = layV (some ⟨B', 0, none⟩) n' c') : B = B' := layV_blk h
theorem OuV.grw {N M : Nat} {W W2 : World} {y : Pt} {v : Value} (h : OuV N W y v) {a b : Option Addr} (hg : Grw M a b W W2) (hne : ∀ B, LayAt v B → a ≠ some ⟨B, 0, none⟩) : OuV N W2 y v := by
  rcases h.eq with h | ⟨h1, B, c, h2, h3⟩
  · exact ⟨.inl h⟩
  · exact ⟨.inr ⟨h1, B, c, h2, hg.own h3 (.inr (.inr (fun e => hne B ⟨_, _, h2⟩ e.symm)))⟩⟩
theorem OuV.lt {N : Nat} {W : World} {y : Pt} {v : Value} (h : OuV N W y v) {B : Nat} (hB : LayAt v B) : N ≤ B ∧ B < W.heap.size := by
  obtain ⟨n, c, rfl⟩ := hB
  rcases h.eq with ⟨_, h2⟩ | ⟨_, B', c', h2, h3⟩
  · cases h2
  · have e := layV_blk0 h2
    subst e
    exact h3.lt
/-- Joined parts in memory; S: their blocks. -/
structure OuR (S : Nat → Prop) (N : Nat) (W : World) (l : List Pt) (lo : Option Addr) (lc : Nat) : Prop where
  sz : N ≤ W.heap.size
  inS : ∀ k, S k → N ≤ k ∧ k < W.heap.size
  row : ∀ g, lo = some ⟨g, 0, none⟩ → S g
  vs : ∃ vs : List Value, vs.length = l.length ∧ W.ownsRow N 54 1 (.slice lo l.length lc) l.length vs ∧ (∀ (i : Nat) (y : Pt) (v : Value), l[i]? = some y → vs[i]? = some v → OuV N W y v) ∧ (∀ (i : Nat) (v : Value) (B : Nat), vs[i]? = some v → LayAt v B → S B) ∧ (∀ (i j : Nat) (v u : Value) (B : Nat), vs[i]? = some v → vs[j]? = some u → LayAt v B → LayAt u B → i = j)
theorem OuR.nil (N : Nat) (W : World) (h : N ≤ W.heap.size) : OuR (fun _ => False) N W [] none 0 := ⟨h, fun k h => h.elim, fun g e => (by cases e), [], rfl, World.ownsRow_nil _ _ _ _, fun i y v h => (by simp at h), fun i v B h => (by simp at h), fun i j v u B h => (by simp at h)⟩
theorem OuR.keep {S : Nat → Prop} {N : Nat} {W W2 : World} {l : List Pt} {lo : Option Addr} {lc : Nat} (h : OuR S N W l lo lc) (hb : Below W.heap.size W W2) : OuR S N W2 l lo lc := by
  obtain ⟨vs, h1, h2, h3, h4, h5⟩ := h.vs
  exact ⟨Nat.le_trans h.sz hb.size, fun k hk => ⟨(h.inS k hk).1, Nat.lt_of_lt_of_le (h.inS k hk).2 hb.size⟩, h.row, vs, h1, own_keepL h2 fun B e => hb.block B (by subst e; exact (h2.lt B rfl).2), fun i y v hi hv => (h3 i y v hi hv).keep hb, h4, h5⟩
/-- What joining leaves: no other block is written. -/
structure JFr (S : Nat → Prop) (W W2 : World) : Prop where
  bel : Below 0 W W2
  oth : ∀ k, k < W.heap.size → ¬ S k → W2.heap[k]? = W.heap[k]?
theorem JFr.of_below {S : Nat → Prop} {W W2 : World} (h : Below W.heap.size W W2) : JFr S W W2 := ⟨h.mono (Nat.zero_le _), fun k hk _ => h.block k hk⟩
theorem JFr.trans {S : Nat → Prop} {W W2 W3 : World} (h : JFr S W W2) (k : JFr S W2 W3) : JFr S W W3 := ⟨h.bel.trans k.bel, fun i hi hs => (k.oth i (Nat.lt_of_lt_of_le hi h.bel.size) hs).trans (h.oth i hi hs)⟩
theorem JFr.of_grw {S : Nat → Prop} {N : Nat} {a b : Option Addr} {W W2 : World} (h : Grw N a b W W2) (ha : ∀ g, a = some ⟨g, 0, none⟩ → S g) : JFr S W W2 := ⟨h.bel.mono (Nat.zero_le _), fun k hk hs => h.oth k hk (fun g e e2 => hs (by rw [e2]; exact ha g e))⟩
theorem JFr.set {S : Nat → Prop} {W : World} (g i : Nat) (v : Value) (hg : S g) : JFr S W (W.setCell ⟨g, i, none⟩ v) := ⟨(SameBut.setCell g i v W).below (Below.refl _ _) (Nat.zero_le _), fun k hk hs => (SameBut.setCell g i v W).block k (fun e => hs (by rw [e]; exact hg))⟩
def Ext (S : Nat → Prop) (a b : Nat) : Nat → Prop := fun k => S k ∨ (a ≤ k ∧ k < b)
theorem own_par_ne {N M : Nat} {W : World} {lo : Option Addr} {n lc : Nat} {vs : List Value} (h : W.ownsRow N 54 1 (.slice lo n lc) n vs) {B m c : Nat} {b : List By} (ho : Own M W (.slice (some ⟨B, 0, none⟩) m c) b) : lo ≠ some ⟨B, 0, none⟩ := by
  intro e
  subst e
  rcases h.2 with ⟨e1, _⟩ | ⟨g, c', cur, e1, _, hh, _⟩
  · cases e1
  · injection e1 with e1 _ _
    injection e1 with e1
    injection e1 with e1
    subst e1
    rcases ho.1.2 with ⟨e2, _⟩ | ⟨g2, c2, cur2, e2, _, hh2, _⟩
    · cases e2
    · injection e2 with e2 _ _
      injection e2 with e2
      injection e2 with e2
      subst e2
      rw [hh] at hh2
      injection hh2 with hh2
      injection hh2 with _ hh2
      cases hh2
theorem ou_ne {N : Nat} {W : World} {lo : Option Addr} {n lc : Nat} {vs : List Value} (h : W.ownsRow N 54 1 (.slice lo n lc) n vs) {y : Pt} {v : Value} (hv : OuV N W y v) (B : Nat) (hB : LayAt v B) : lo ≠ some ⟨B, 0, none⟩ := by
  obtain ⟨m, c, rfl⟩ := hB
  rcases hv.eq with ⟨_, e⟩ | ⟨_, B', c', e, ho⟩
  · cases e
  · have e2 := layV_blk0 e
    subst e2
    exact own_par_ne h ho
/-- A part appended. -/
theorem ou_app {S : Nat → Prop} {N a : Nat} {W W2 : World} {l : List Pt} {lo lo' : Option Addr} {lc lc' : Nat} {x : Pt} {v : Value} {vs : List Value} (hS : ∀ k, S k → N ≤ k ∧ k < a) (haN : N ≤ a) (haW : a ≤ W.heap.size) (v1 : vs.length = l.length) (v2 : W.ownsRow N 54 1 (.slice lo l.length lc) l.length vs) (v3 : ∀ (i : Nat) (y : Pt) (v : Value), l[i]? = some y → vs[i]? = some v → OuV N W y v) (v4 : ∀ (i : Nat) (v : Value) (B : Nat), vs[i]? = some v → LayAt v B → S B) (v5 : ∀ (i j : Nat) (v u : Value) (B : Nat), vs[i]? = some v → vs[j]? = some u → LayAt v B → LayAt u B → i = j) (hlo : ∀ g, lo = some ⟨g, 0, none⟩ → S g)
    (hv : OuV N W x v) (hvB : ∀ B, LayAt v B → a ≤ B) (ho : W2.ownsRow N 54 1 (.slice lo' (l.length + 1) lc') (l.length + 1) (vs ++ [v])) (hg : Grw N lo lo' W W2) : OuR (Ext S a W2.heap.size) N W2 (l ++ [x]) lo' lc' := by
  have hz := hg.size
  have hat : ∀ (i : Nat) (u : Value), (vs ++ [v])[i]? = some u → (i < l.length ∧ vs[i]? = some u) ∨ (i = l.length ∧ u = v) := fun i u hu => by
    by_cases hi : i < vs.length
    · rw [List.getElem?_append_left hi] at hu; exact .inl ⟨by omega, hu⟩
    · rw [List.getElem?_append_right (by omega)] at hu
      have h2 := (List.getElem?_eq_some_iff.1 hu).1
      simp at h2
      have : i = vs.length := by omega
      rw [this] at hu
      simp at hu
      exact .inr ⟨by omega, hu.symm⟩
  refine ⟨Nat.le_trans haN (Nat.le_trans haW hz), fun k hk => ?_, fun g e => ?_, vs ++ [v], by simp [v1], by rw [List.length_append]; exact ho, fun i y u hy hu => ?_, fun i u B hu hB => ?_, fun i j u z B hu hz2 hB hB2 => ?_⟩
  · rcases hk with hk | ⟨h1, h2⟩
    · exact ⟨(hS k hk).1, by have := (hS k hk).2; omega⟩
    · exact ⟨by omega, h2⟩
  · rcases hg.loc with e1 | ⟨g', e1, h1⟩
    · exact .inl (hlo g (by rw [← e1]; exact e))
    · rw [e1] at e; injection e with e; injection e with e; subst e
      subst e1
      exact .inr ⟨by omega, (ho.lt g' rfl).2⟩
  · rcases hat i u hu with ⟨h1, h2⟩ | ⟨h1, h2⟩
    · rw [List.getElem?_append_left h1] at hy
      have := v3 i y u hy h2
      exact this.grw hg (ou_ne v2 this)
    · subst h1; subst h2
      rw [List.getElem?_append_right (Nat.le_refl _)] at hy
      simp at hy
      subst hy
      exact hv.grw hg (ou_ne v2 hv)
  · rcases hat i u hu with ⟨h1, h2⟩ | ⟨h1, h2⟩
    · exact .inl (v4 i u B h2 hB)
    · subst h2
      exact .inr ⟨hvB B hB, by have := (hv.lt hB).2; omega⟩
  · rcases hat i u hu with ⟨h1, h2⟩ | ⟨h1, h2⟩
    · rcases hat j z hz2 with ⟨h3, h4⟩ | ⟨h3, h4⟩
      · exact v5 i j u z B h2 h4 hB hB2
      · subst h4
        have := (hS B (v4 i u B h2 hB)).2
        have := hvB B hB2
        omega
    · rcases hat j z hz2 with ⟨h3, h4⟩ | ⟨h3, h4⟩
      · subst h2
        have := (hS B (v4 j z B h4 hB2)).2
        have := hvB B hB
        omega
      · omega
/-- The last part replaced. -/
theorem ou_set {S : Nat → Prop} {N a : Nat} {W : World} {m : List Pt} {g lc : Nat} {x : Pt} {v : Value} {vs : List Value} (hS : ∀ k, S k → N ≤ k ∧ k < a) (haN : N ≤ a) (haW : a ≤ W.heap.size) (v1 : vs.length = m.length + 1) (v2 : W.ownsRow N 54 1 (.slice (some ⟨g, 0, none⟩) (m.length + 1) lc) (m.length + 1) vs) (v3 : ∀ (i : Nat) (y : Pt) (v : Value), m[i]? = some y → vs[i]? = some v → OuV N W y v) (v4 : ∀ (i : Nat) (v : Value) (B : Nat), i < m.length → vs[i]? = some v → LayAt v B → S B) (v5 : ∀ (i j : Nat) (v u : Value) (B : Nat), vs[i]? = some v → vs[j]? = some u → LayAt v B → LayAt u B → i = j) (hlo : S g)
    (hv : OuV N W x v) (hvB : ∀ B, LayAt v B → (a ≤ B ∨ S B) ∧ ∀ i u, i < m.length → vs[i]? = some u → ¬ LayAt u B) : OuR (Ext S a (W.setCell ⟨g, m.length, none⟩ v).heap.size) N (W.setCell ⟨g, m.length, none⟩ v) (m ++ [x]) (some ⟨g, 0, none⟩) lc := by
  have hsz : (W.setCell ⟨g, m.length, none⟩ v).heap.size = W.heap.size := (SameBut.setCell g m.length v W).size
  have hgw : Grw N (some ⟨g, 0, none⟩) (some ⟨g, 0, none⟩) W (W.setCell ⟨g, m.length, none⟩ v) := grw_set (.refl _ _ _) (hS g hlo).1 _ _
  have hat : ∀ (i : Nat) (u : Value), (vs.set m.length v)[i]? = some u → (i < m.length ∧ vs[i]? = some u) ∨ (i = m.length ∧ u = v) := fun i u hu => by
    have hi := (List.getElem?_eq_some_iff.1 hu).1
    rw [List.length_set] at hi
    rw [List.getElem?_set] at hu
    by_cases e : m.length = i
    · rw [if_pos e, if_pos (by omega)] at hu
      injection hu with hu
      exact .inr ⟨e.symm, hu.symm⟩
    · rw [if_neg e] at hu
      exact .inl ⟨by omega, hu⟩
  refine ⟨by rw [hsz]; omega, fun k hk => ?_, fun g' e => ?_, vs.set m.length v, by simp [v1], ?_, fun i y u hy hu => ?_, fun i u B hu hB => ?_, fun i j u z B hu hz2 hB hB2 => ?_⟩
  · rcases hk with hk | ⟨h1, h2⟩
    · exact ⟨(hS k hk).1, by rw [hsz]; have := (hS k hk).2; omega⟩
    · exact ⟨by omega, h2⟩
  · injection e with e; injection e with e; subst e; exact .inl hlo
  · rw [List.length_append]; exact (v2.stored m.length v).1
  · rcases hat i u hu with ⟨h1, h2⟩ | ⟨h1, h2⟩
    · rw [List.getElem?_append_left h1] at hy
      have := v3 i y u hy h2
      exact this.grw hgw (ou_ne v2 this)
    · subst h1; subst h2
      rw [List.getElem?_append_right (Nat.le_refl _)] at hy
      simp at hy
      subst hy
      exact hv.grw hgw (ou_ne v2 hv)
  · rcases hat i u hu with ⟨h1, h2⟩ | ⟨h1, h2⟩
    · exact .inl (v4 i u B h1 h2 hB)
    · subst h2
      rcases (hvB B hB).1 with h3 | h3
      · exact .inr ⟨h3, by rw [hsz]; exact (hv.lt hB).2⟩
      · exact .inl h3
  · rcases hat i u hu with ⟨h1, h2⟩ | ⟨h1, h2⟩
    · rcases hat j z hz2 with ⟨h3, h4⟩ | ⟨h3, h4⟩
      · exact v5 i j u z B h2 h4 hB hB2
      · subst h4
        exact absurd hB ((hvB B hB2).2 i u h1 h2)
    · rcases hat j z hz2 with ⟨h3, h4⟩ | ⟨h3, h4⟩
      · subst h2
        exact absurd hB2 ((hvB B hB).2 j z h3 h4)
      · omega
end Go.Proofs.YtdfbfheceobboaaDoor
