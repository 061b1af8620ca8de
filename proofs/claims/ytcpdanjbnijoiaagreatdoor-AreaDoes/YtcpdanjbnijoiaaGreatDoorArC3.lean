
import Derived.Test.YtcpdanjbnijoiaaGreatDoorArC2
import Derived.Test.YtcpdanjbnijoiaaGreatDoorI11Tool
/-! The program's area: lay, program. (Printed by tools/gencar14.py.) -/
namespace Go.Proofs.YtcpdanjbnijoiaaGreatDoor
open Go.RowKit
set_option linter.unusedVariables false

/-- All but the first of a slice of bytes. -/
theorem run_tailN (B off n cap K : Nat) (hK : K < n) (hc : n ≤ cap) (w : World) : (Instr.slice 40 (.slice (some ⟨B, off, none⟩) n cap) (some (.int .i64 (K : Int))) none none).run Tryz.prog w = .ok (.slice (some ⟨B, off + K, none⟩) (n - K) (cap - K)) w := by
  have ht : Tryz.prog.underlying 40 = some (.slice 5) := Tryz.underlying40
  have ht' : Tryz.prog.underlying 40 = some (.slice (Tryz.prog.elem 40)) := by simp [Program.elem, ht]
  have he : Tryz.prog.elem 40 = 5 := by simp [Program.elem, ht]
  have hz : ∀ w, (Go.sizeOf 5).run Tryz.prog w = .ok 1 w := fun w => by kernel_rfl
  rw [run_slice_l w 40 _ _ _ ht' .i64 _ (by omega) (by omega), he, hz]
  have h1 : ¬ cap = K := by omega
  simp [Result.andThen, sliced, Addr.add, h1]

/-- A cell of b: what it fills, ff behind that. -/
theorem cellOf_lay (b : List By) (k : Nat) : (blankC.map B8).take 0 ++ ((b.drop (32 * k)).take 32).map B8 ++ (blankC.map B8).drop (0 + (((b.drop (32 * k)).take 32).map B8).length) = (cellOf b k).map B8 := by
  rw [List.take_zero, List.nil_append, Nat.zero_add, List.length_map, ← List.map_drop, ← List.map_append]
  congr 1
  apply List.ext_getElem?
  intro j
  unfold cellOf blankC
  rw [List.getElem?_map, List.getElem?_append, List.length_take, List.length_drop]
  by_cases h32 : j < 32
  · rw [List.getElem?_range h32]
    by_cases h : 32 * k + j < b.length
    · rw [if_pos (by omega), List.getElem?_take_of_lt h32, List.getElem?_drop, Option.map_some, List.getD_eq_getElem?_getD, List.getElem?_eq_getElem h]; rfl
    · rw [if_neg (by omega), List.drop_replicate, List.getElem?_replicate, if_pos (by omega), Option.map_some, List.getD_eq_getElem?_getD, List.getElem?_eq_none (by omega)]; rfl
  · rw [List.getElem?_eq_none (l := List.range 32) (by simp; omega), if_neg (by omega), List.drop_replicate, List.getElem?_replicate, if_neg (by omega)]; rfl

/-- Around the copy. -/
structure LC14 (W1 : World) (w : World) (X : Nat) (x1 : List Value) (l : Bool) (W : World) : Prop where
  a : l = false → W = W1.drew
  b : l = true → Row W X 55 x1 ∧ Below w.heap.size w W

theorem CAt.dis {w : World} {G : RF} {s : RS} {S : ByteArray} (h : CAt w G s S) {bo : Option Addr} {b : List By} (hb : IsB w bo b) (hd : b = [] ∨ ∀ B off, bo = some ⟨B, off, none⟩ → B ∉ G.blocks) {w' : World} (k : KeptL G.blocks w w') : IsB w' bo b := by
  refine isb_keep hb fun B off hne e => ?_
  rcases hd with h1 | h1
  · exact absurd h1 hne
  · refine k.block B ?_ (h1 B off e)
    rcases hb with h2 | ⟨B', off', e2, hc⟩
    · exact absurd h2 hne
    · rw [e] at e2; injection e2 with e2; injection e2 with e3 e4
      subst e3 e4
      cases b with
      | nil => exact absurd rfl hne
      | cons x r => exact World.block_lt_of_cell? _ _ (hc 0 x rfl)

structure La2 (W1 : World) (w : World) (X B off n cap k KK : Nat) (XX cs : List By) (L : Nat → Bool) (x13 x14 x15 x16 x17 x18 : Value) (W : World) : Prop where
  x : LC14 W1 w X (XX.map B8) (L 5) W
  p0 : L 0 = true → x13 = .slice (some ⟨X, 0, none⟩) 32 32
  p1 : L 1 = true → x14 = .slice (some ⟨B, off, none⟩) n cap
  p2 : L 2 = true → x15 = .int .i64 (k : Int)
  p3 : L 3 = true → x16 = .int .i64 (KK : Int)
  p4 : L 4 = true → x17 = .slice (some ⟨B, off + KK, none⟩) (n - KK) (cap - KK)
  p5 : L 5 = true → x18 = .int .i64 (cs.length : Int)
section
variable {W1 : World} {w : World} {X B off n cap k KK : Nat} {XX cs : List By} {L : Nat → Bool} {x13 x14 x15 x16 x17 x18 : Value} {W W2 : World}
theorem La2.s0 (h : La2 W1 w X B off n cap k KK XX cs L x13 x14 x15 x16 x17 x18 W) : La2 W1 w X B off n cap k KK XX cs (upd L 0) (.slice (some ⟨X, 0, none⟩) 32 32) x14 x15 x16 x17 x18 W :=
  ⟨h.x, fun _ => rfl, h.p1, h.p2, h.p3, h.p4, h.p5⟩
theorem La2.s1 (h : La2 W1 w X B off n cap k KK XX cs L x13 x14 x15 x16 x17 x18 W) : La2 W1 w X B off n cap k KK XX cs (upd L 1) x13 (.slice (some ⟨B, off, none⟩) n cap) x15 x16 x17 x18 W :=
  ⟨h.x, h.p0, fun _ => rfl, h.p2, h.p3, h.p4, h.p5⟩
theorem La2.s2 (h : La2 W1 w X B off n cap k KK XX cs L x13 x14 x15 x16 x17 x18 W) : La2 W1 w X B off n cap k KK XX cs (upd L 2) x13 x14 (.int .i64 (k : Int)) x16 x17 x18 W :=
  ⟨h.x, h.p0, h.p1, fun _ => rfl, h.p3, h.p4, h.p5⟩
theorem La2.s3 (h : La2 W1 w X B off n cap k KK XX cs L x13 x14 x15 x16 x17 x18 W) : La2 W1 w X B off n cap k KK XX cs (upd L 3) x13 x14 x15 (.int .i64 (KK : Int)) x17 x18 W :=
  ⟨h.x, h.p0, h.p1, h.p2, fun _ => rfl, h.p4, h.p5⟩
theorem La2.s4 (h : La2 W1 w X B off n cap k KK XX cs L x13 x14 x15 x16 x17 x18 W) : La2 W1 w X B off n cap k KK XX cs (upd L 4) x13 x14 x15 x16 (.slice (some ⟨B, off + KK, none⟩) (n - KK) (cap - KK)) x18 W :=
  ⟨h.x, h.p0, h.p1, h.p2, h.p3, fun _ => rfl, h.p5⟩
theorem La2.s5 (h : La2 W1 w X B off n cap k KK XX cs L x13 x14 x15 x16 x17 x18 W) (hX : LC14 W1 w X (XX.map B8) ((upd L 5) 5) W2) : La2 W1 w X B off n cap k KK XX cs (upd L 5) x13 x14 x15 x16 x17 (.int .i64 (cs.length : Int)) W2 :=
  ⟨hX, h.p0, h.p1, h.p2, h.p3, h.p4, fun _ => rfl⟩
end
@[reducible] def ILa2 (W1 : World) (w : World) (X B off n cap k KK : Nat) (XX cs : List By) (y0 y1 y2 y3 y4 y5 y6 y7 y8 y9 y10 y11 y12 y19 y20 y21 y22 y23 y24 y25 y26 y27 y28 y29 y30 : Value) : (Nat → Bool) → Act → World → Prop := fun L a W => ∃ x13 x14 x15 x16 x17 x18, a = ⟨#[y0, y1, y2, y3, y4, y5, y6, y7, y8, y9, y10, y11, y12, x13, x14, x15, x16, x17, x18, y19, y20, y21, y22, y23, y24, y25, y26, y27, y28, y29, y30], []⟩ ∧ La2 W1 w X B off n cap k KK XX cs L x13 x14 x15 x16 x17 x18 W
theorem La2.step {W1 : World} {w : World} {X B off n cap k KK : Nat} {XX cs : List By} {y0 y1 y2 y3 y4 y5 y6 y7 y8 y9 y10 y11 y12 y19 y20 y21 y22 y23 y24 y25 y26 y27 y28 y29 y30 : Value} {P : Program} {ops : Array Oper} {Q : Exit → Act → World → Prop} {i : Nat} {o : Oper} (hq : ∀ x13 x14 x15 x16 x17 x18 (L : Nat → Bool) (W : World), La2 W1 w X B off n cap k KK XX cs L x13 x14 x15 x16 x17 x18 W → L i = false → (∀ j ∈ onesOf o, L j = true) → ∀ K : Act → World → Prop, Shut (∀ a' w', ILa2 W1 w X B off n cap k KK XX cs y0 y1 y2 y3 y4 y5 y6 y7 y8 y9 y10 y11 y12 y19 y20 y21 y22 y23 y24 y25 y26 y27 y28 y29 y30 (upd L i) a' w' → K a' w') → if Region.wanted o (yielded ops (⟨#[y0, y1, y2, y3, y4, y5, y6, y7, y8, y9, y10, y11, y12, x13, x14, x15, x16, x17, x18, y19, y20, y21, y22, y23, y24, y25, y26, y27, y28, y29, y30], []⟩ : Act).tmps) = true then Oper.wp P o ⟨#[y0, y1, y2, y3, y4, y5, y6, y7, y8, y9, y10, y11, y12, x13, x14, x15, x16, x17, x18, y19, y20, y21, y22, y23, y24, y25, y26, y27, y28, y29, y30], []⟩ W K Q else K ((⟨#[y0, y1, y2, y3, y4, y5, y6, y7, y8, y9, y10, y11, y12, x13, x14, x15, x16, x17, x18, y19, y20, y21, y22, y23, y24, y25, y26, y27, y28, y29, y30], []⟩ : Act).put o.dst undef) W) : StepI P ops (ILa2 W1 w X B off n cap k KK XX cs y0 y1 y2 y3 y4 y5 y6 y7 y8 y9 y10 y11 y12 y19 y20 y21 y22 y23 y24 y25 y26 y27 y28 y29 y30) Q i o := by
  rintro L a W ⟨x13, x14, x15, x16, x17, x18, rfl, h⟩
  exact hq _ _ _ _ _ _ _ _ h
theorem La2.ends {W1 : World} {w : World} {X B off n cap k KK : Nat} {XX cs : List By} {y0 y1 y2 y3 y4 y5 y6 y7 y8 y9 y10 y11 y12 y19 y20 y21 y22 y23 y24 y25 y26 y27 y28 y29 y30 : Value} {mm_ : Nat} {Q : Exit → Act → World → Prop} (hq : ∀ x13 x14 x15 x16 x17 x18 (L : Nat → Bool) (W : World), (∀ j, j < mm_ → L j = true) → La2 W1 w X B off n cap k KK XX cs L x13 x14 x15 x16 x17 x18 W → Q .normal ⟨#[y0, y1, y2, y3, y4, y5, y6, y7, y8, y9, y10, y11, y12, x13, x14, x15, x16, x17, x18, y19, y20, y21, y22, y23, y24, y25, y26, y27, y28, y29, y30], []⟩ W) : ∀ L a' w', (∀ j, j < mm_ → L j = true) → ILa2 W1 w X B off n cap k KK XX cs y0 y1 y2 y3 y4 y5 y6 y7 y8 y9 y10 y11 y12 y19 y20 y21 y22 y23 y24 y25 y26 y27 y28 y29 y30 L a' w' → Q .normal a' w' := by
  rintro L a W hall ⟨x13, x14, x15, x16, x17, x18, rfl, h⟩
  exact hq _ _ _ _ _ _ _ _ hall h
set_option maxHeartbeats 2000000 in
set_option maxRecDepth 100000 in
theorem arlay_any (G : RF) (s : RS) (S : ByteArray) (a : Int) (ha : a = 0 ∨ a = 1) (bo : Option Addr) (n cap k : Nat) (b : List By) (hb0 : b.length = n) (hcap : n ≤ cap) (w : World) (h : CAt w G s S) (hA : s.Ar) (hG : s.Good) (hn : s.n < 4611686018427387904)
    (hb : IsB w bo b) (hk : k < s.c.area.toNat * s.c.cells.toNat) (hkn : 32 * k < n) :
    Calls Tryz.prog 60 #[.pointer (some ⟨G.g, 0, none⟩), .int .i64 a, .int .i64 (k : Int), .slice bo n cap] w (CPost G (s.layC a b k) (s.layE a k) w) := by
  have har := hA.area
  have hce := hA.cells
  have hMC : s.c.area.toNat * s.c.cells.toNat ≤ 64 * 256 := Nat.mul_le_mul (by omega) (by omega)
  have hk2 : k < 16384 := by omega
  have BL := arblank_any w
  have HPL : Hid (∀ W, Below w.heap.size w W → Calls Tryz.prog 61 #[.pointer (some ⟨G.g, 0, none⟩), .int .i64 a, .int .i64 (k : Int)] W fun e w' => e = .returned (.tuple #[.int .i64 ((s.pgN a (k / s.c.cells.toNat) : Nat) : Int), .int .i64 ((k % s.c.cells.toNat : Nat) : Int)]) ∧ Below W.heap.size W w') := fun W hW => arplace_any G s S a k W (h.below hW (Nat.le_refl _)) hA ha hk
  have HPG : Hid (∀ W, Below w.heap.size w W → Calls Tryz.prog 76 #[.pointer (some ⟨G.g, 0, none⟩), .int .i64 ((s.pgN a (k / s.c.cells.toNat) : Nat) : Int), .int .i64 ((k % s.c.cells.toNat : Nat) : Int), .agg ((cellOf b k).map B8).toArray] W (CPost G (s.layC a b k) (s.layE a k) W)) := fun W hW => cprogram_any G s S _ _ (cellOf b k) (cellOf_len b k) W (h.below hW (Nat.le_refl _)) hG.n0 hn hG.wt
  obtain ⟨B, off, hbo, hsrc0⟩ : ∃ B off, bo = some ⟨B, off, none⟩ ∧ ∀ j v, b[j]? = some v → w.cell? ⟨B, off + j, none⟩ = some (B8 v) := by
    rcases hb with h1 | h1
    · rw [h1] at hb0; simp at hb0; omega
    · exact h1
  subst hbo
  have hBl : B < w.heap.size := World.block_lt_of_cell? _ _ (hsrc0 0 _ (List.getElem?_eq_getElem (by omega)))
  have HLX : Hid ((blankC.map B8).take 0 ++ ((b.drop (32 * k)).take 32).map B8 ++ (blankC.map B8).drop (0 + (((b.drop (32 * k)).take 32).map B8).length) = (cellOf b k).map B8) := cellOf_lay b k
  have HCS : Hid (((b.drop (32 * k)).take 32).length = Nat.min (n - 32 * k) 32) := by
    show _ = min _ _
    rw [List.length_take, List.length_drop, hb0]; exact Nat.min_comm _ _
  have HSRC : Hid (∀ W, Below w.heap.size w W → ∀ j v, ((b.drop (32 * k)).take 32)[j]? = some v → W.cell? ⟨B, off + 32 * k + j, none⟩ = some (B8 v)) := fun W hW j v hj => by
    rw [List.getElem?_take] at hj
    split at hj
    · rw [List.getElem?_drop] at hj
      rw [World.cell?_of_block (hW.block B hBl), Nat.add_assoc]
      exact hsrc0 _ _ hj
    · cases hj
  have HBC : Hid ((blankC.map B8).length = 32) := rfl
  have kw : IntKind.i64.wrap ((k : Int) * 32) = ((32 * k : Nat) : Int) := by rw [i64_in _ (by omega) (by omega)]; omega
  have HSL : Hid (∀ W : World, (Instr.slice 40 (.slice (some ⟨B, off, none⟩) n cap) (some (.int .i64 ((32 * k : Nat) : Int))) none none).run Tryz.prog W = .ok (.slice (some ⟨B, off + 32 * k, none⟩) (n - 32 * k) (cap - 32 * k)) W) := fun W => run_tailN B off n cap (32 * k) hkn hcap W
  have lx : ((cellOf b k).map B8).length = 32 := by rw [List.length_map, cellOf_len]
  have HKP : Hid (∀ W, Below w.heap.size w W → KeptL G.blocks w W) := fun W hW => (KeptL.refl _ _).below hW (Nat.le_refl _)
  clear h hA hG hn hb hk hMC hb0 hsrc0 hBl
  generalize s.pgN a (k / s.c.cells.toNat) = PN at *
  generalize k % s.c.cells.toNat = KM at *
  generalize s.layC a b k = T at *
  generalize s.layE a k = EE at *
  generalize cellOf b k = XX at *
  generalize (b.drop (32 * k)).take 32 = cs at *
  generalize hKK : 32 * k = KK at *
  generalize hBC : blankC.map B8 = BC at *
  go_enter Tryz.func60, Tryz.ntmps60
  go_wp2_with fail
  refine BL.mono ?_
  clear BL
  rintro e w1 ⟨rfl, hb1⟩
  dsimp only
  have r9 := Row.at w1 55 (List.replicate 32 (.int .u8 0)) _ _ rfl rfl
  have hw1 := hb1.size
  have hlBC := HBC.out
  have h1BC : ∀ v ∈ BC, Value.oneCell' v = true := by rw [← hBC]; exact B8_one _
  go_wp2_with (refine wpList_store_Row rfl 55 _ _ rfl w1.heap.size 55 0 (List.replicate 32 (.int .u8 0)) BC r9 (by rw [hlBC]; exact Nat.le_refl _) rfl rfl (by rw [hlBC]; kernel_rfl) h1BC ?_; intro w2 hr2 hs2)
  have HRX : Hid (Row w2 w1.heap.size 55 BC) := row_whole hr2 (by rw [hlBC]; exact Nat.le_refl _)
  have HB2 : Hid (Below w.heap.size w w2) := hs2.below (hb1.trans ((Below.refl _ _).alloc hw1 _)) hw1
  clear hr2 hs2 r9 hb1 h1BC
  generalize hX : w1.heap.size = X at *
  refine wp_region_inv (ILa2 w2 w X B off n cap k KK XX cs _ _ _ _ _ _ _ _ _ _ _ _ _ _ _ _ _ _ _ _ _ _ _ _ _) (by kernel_rfl) (by kernel_rfl) ⟨_, _, _, _, _, _, rfl, ⟨⟨fun _ => rfl, fun e => by (cases e)⟩, fun k => (by cases k), fun k => (by cases k), fun k => (by cases k), fun k => (by cases k), fun k => (by cases k), fun k => (by cases k)⟩⟩ ?_ ?_
  · refine .cons ?_ (.cons ?_ (.cons ?_ (.cons ?_ (.cons ?_ (.cons ?_ .nil)))))
    all_goals (refine La2.step ?_; intro x13 x14 x15 x16 x17 x18 L W hI hL hd K hK)
    · rw [if_pos (by rfl)]
      go_simp
      exact hK.out _ _ ⟨_, _, _, _, _, _, rfl, hI.s0⟩
    · rw [if_pos (by rfl)]
      go_simp
      exact hK.out _ _ ⟨_, _, _, _, _, _, rfl, hI.s1⟩
    · rw [if_pos (by rfl)]
      go_simp
      exact hK.out _ _ ⟨_, _, _, _, _, _, rfl, hI.s2⟩
    · have hx2 := hI.p2 (hd 2 (by decide))
      subst hx2
      rw [if_pos (by rfl)]
      go_simp
      exact hK.out _ _ ⟨_, _, _, _, _, _, rfl, hI.s3⟩
    · have hx1 := hI.p1 (hd 1 (by decide))
      subst hx1
      have hx3 := hI.p3 (hd 3 (by decide))
      subst hx3
      rw [if_pos (by rfl)]
      have hsl := HSL.out
      go_simp
      exact hK.out _ _ ⟨_, _, _, _, _, _, rfl, hI.s4⟩
    · have hx0 := hI.p0 (hd 0 (by decide))
      subst hx0
      have hx4 := hI.p4 (hd 4 (by decide))
      subst hx4
      refine step_copy_Row rfl (.tmp 13) (.tmp 17) rfl X 0 32 32 B (off + KK) (n - KK) (cap - KK) rfl rfl 55 BC (by rw [hI.x.a hL]; exact HRX.out) cs cs.length rfl HCS.out (by rw [hI.x.a hL]; exact HSRC.out _ (Below_dr HB2.out ⟨1, rfl⟩)) (by rw [hlBC, HCS.out, Nat.zero_add]; exact Nat.min_le_right _ _) ?_
      intro W2 hr2 hs2
      rw [HLX.out] at hr2
      have hW := hI.x.a hL
      rw [hW] at hs2
      exact hK.out _ _ ⟨_, _, _, _, _, _, rfl, hI.s5 (⟨fun e => by (cases e), fun _ => ⟨hr2, hs2.below (Below_dr HB2.out ⟨1, rfl⟩) hw1⟩⟩)⟩
  · refine La2.ends ?_; intro x13 x14 x15 x16 x17 x18 L W hall hI
    have hx0 := hI.p0 (hall 0 (by decide))
    subst hx0
    have hx1 := hI.p1 (hall 1 (by decide))
    subst hx1
    have hx2 := hI.p2 (hall 2 (by decide))
    subst hx2
    have hx3 := hI.p3 (hall 3 (by decide))
    subst hx3
    have hx4 := hI.p4 (hall 4 (by decide))
    subst hx4
    have hx5 := hI.p5 (hall 5 (by decide))
    subst hx5
    have hXe := hI.x
    rw [hall 5 (by decide)] at hXe
    clear hI hall
    try dsimp only
    obtain ⟨rx, bx⟩ := hXe.b rfl
    have HRX3 : Hid (Row W X 55 (XX.map B8)) := rx
    have HB3 : Hid (Below w.heap.size w W) := bx
    clear hXe rx bx HRX HB2
    go_wp2_with fail
    refine (HPL.out _ HB3.out).mono ?_
    rintro e w4 ⟨rfl, hb4⟩
    dsimp only
    have r4 : Row w4 X 55 (XX.map B8) := HRX3.out.below hb4 HRX3.out.lt
    have HB4 : Hid (Below w.heap.size w w4) := HB3.out.trans (hb4.mono HB3.out.size)
    clear hb4 HRX3 HB3
    go_wp2_with (refine wpList_load_Row rfl 55 _ rfl _ _ _ r4 rfl _ Tryz.underlying55 rfl (by rw [lx]; kernel_rfl) ?_)
    refine (HPG.out _ HB4.out).mono ?_
    rintro e w5 ⟨rfl, c5, k5⟩
    dsimp only
    go_wp2
    go_ret
    exact ⟨rfl, c5, (HKP.out _ HB4.out).trans k5⟩

set_option maxHeartbeats 2000000 in
set_option maxRecDepth 100000 in
theorem arprogram_any (G : RF) (s : RS) (S : ByteArray) (a : Int) (ha : a = 0 ∨ a = 1) (bo : Option Addr) (n cap : Nat) (b : List By) (hb0 : b.length = n) (hn0 : 0 < n) (hn47 : n ≤ 140737488355328) (hcap : n ≤ cap) (w : World) (h : CAt w G s S) (hA : s.Ar) (hG : s.Good) (hg : s.gone = false) (hn : s.n < 4611686018427300000)
    (hb : IsB w bo b) (hd : b = [] ∨ ∀ B off, bo = some ⟨B, off, none⟩ → B ∉ G.blocks) (hK : (n + 31) / 32 ≤ s.c.area.toNat * s.c.cells.toNat) :
    Calls Tryz.prog 41 #[.pointer (some ⟨G.g, 0, none⟩), .int .i64 a, .slice bo n cap] w (CPost G (s.wr2 a b).1 (s.wr2 a b).2 w) := by
  have har := hA.area
  have hce := hA.cells
  obtain ⟨K, hKe⟩ : ∃ K : Nat, (n + 31) / 32 = K := ⟨_, rfl⟩
  rw [hKe] at hK
  have hK1 : 1 ≤ K := by omega
  have hMC : s.c.area.toNat * s.c.cells.toNat ≤ 64 * 256 := Nat.mul_le_mul (by omega) (by omega)
  have hK3 : K ≤ 16384 := by omega
  have HKM : Hid (K ≤ s.c.area.toNat * s.c.cells.toNat) := hK
  have HKN : Hid (∀ k, k < K → 32 * k < n) := fun k hk => by omega
  have HE3 : Hid (s.wr2 a b = if (layGo a b (K - 1) 1 s).2 = 0 then ((layGo a b (K - 1) 1 s).1.layC a b 0, (layGo a b (K - 1) 1 s).1.layE a 0) else layGo a b (K - 1) 1 s) := by show _ = _; unfold RS.wr2; rw [hb0, hKe]
  have HLZ : Hid (Lz a b K (layGo a b (K - 1) 1 s) s s 1) := ⟨hA, hG, rfl, by omega, hg, rfl⟩
  have HIB : Hid (∀ W, KeptL G.blocks w W → IsB W bo b) := fun W hW => h.dis hb hd hW
  have HLY : Hid (∀ W (t : RS) (k j : Nat), k ≤ K → j < K → Lz a b K (layGo a b (K - 1) 1 s) s t k → (∃ S', CAt W G t S') → KeptL G.blocks w W → Calls Tryz.prog 60 #[.pointer (some ⟨G.g, 0, none⟩), .int .i64 a, .int .i64 (j : Int), .slice bo n cap] W (CPost G (t.layC a b j) (t.layE a j) W)) := fun W t k j hk hj hz hW kl => by
    obtain ⟨S', c⟩ := hW
    have := hz.n
    exact arlay_any G t S' a ha bo n cap j b hb0 hcap W c hz.ar hz.good (by omega) (HIB.out W kl) (by rw [hz.c]; have := HKM.out; omega) (HKN.out j hj)
  have HC0 : Hid (∃ S', CAt w G s S') := ⟨S, h⟩
  have HNX : Hid (∀ (t : RS) (k : Nat), k < K → Lz a b K (layGo a b (K - 1) 1 s) s t k → t.layE a k = 0 → Lz a b K (layGo a b (K - 1) 1 s) s (t.layC a b k) (k + 1)) := fun t k hk hz e => lz_next ha hz HKM.out hk e
  have w1 : IntKind.i64.wrap ((n : Int) + 32) = (n : Int) + 32 := i64_in _ (by omega) (by omega)
  have w2 : IntKind.i64.wrap ((n : Int) + 32 - 1) = (n : Int) + 32 - 1 := i64_in _ (by omega) (by omega)
  have w3 : Int.tdiv ((n : Int) + 32 - 1) 32 = (K : Int) := by
    rw [show (n : Int) + 32 - 1 = ((n + 31 : Nat) : Int) by omega, ← hKe]; rfl
  have w4 : ((n : Int) + 32 - 1) / 32 = (K : Int) := by omega
  have w5 : IntKind.i64.wrap (K : Int) = (K : Int) := i64_in _ (by omega) (by omega)
  generalize s.wr2 a b = R at *
  generalize layGo a b (K - 1) 1 s = R2 at *
  clear h hA hG hb hd hb0 hK hMC hKe
  go_enter Tryz.func41, Tryz.ntmps41
  go_wp2_with fail
  go_loopw [8] (fun iv wr => ∃ (k : Nat) (t : RS), 1 ≤ k ∧ k ≤ K ∧ iv = .int .i64 k ∧ Hid (Lz a b K R2 s t k) ∧ Hid (∃ S', CAt wr G t S') ∧ Hid (KeptL G.blocks w wr)) (fun iv _ => K - (intOf iv).toNat)
  case atStart => exact ⟨1, s, Nat.le_refl _, hK1, rfl, HLZ, HC0, KeptL.refl _ _⟩
  case round =>
    clear HLZ HC0
    obtain ⟨k, t, hk1, hk2, rfl, LZ, CA, KL⟩ := hrel
    by_cases hkl : k < K
    · have y2 : (k : Int) < (K : Int) := by omega
      have LY := HLY.out wr t k k (by omega) hkl LZ.out CA.out KL.out
      have G1 : Hid (t.layE a k = 0 → Lz a b K R2 s (t.layC a b k) (k + 1)) := fun e => HNX.out t k hkl LZ.out e
      have G2 : Hid (¬ t.layE a k = 0 → R2 = (t.layC a b k, t.layE a k)) := fun e => lz_out LZ.out hkl e
      clear LZ CA
      generalize t.layC a b k = t2 at *
      generalize t.layE a k = E2 at *
      go_wp2_with fail
      refine LY.mono ?_
      clear LY
      rintro e w4' ⟨rfl, c4, k4⟩
      dsimp only
      have KW4 : Hid (KeptL G.blocks w w4') := KL.out.trans k4
      have CW4 : Hid (∃ S', CAt w4' G t2 S') := c4
      clear c4 k4 KL
      by_cases he2 : E2 = 0
      · have HN : Hid (Lz a b K R2 s t2 (k + 1)) := G1.out he2
        subst he2
        clear G1 G2
        go_wp2
        exact ⟨⟨k + 1, t2, by omega, by omega, by go_num, HN, CW4, KW4⟩, by simp [intOf]; omega⟩
      · have hq2 : (E2 != 0) = true := by simpa using he2
        have HF : Hid (R = (t2, E2)) := by
          show _ = _
          have e3 := G2.out he2
          rw [HE3.out, e3, if_neg he2]
        clear G1 G2 HE3
        go_wp2
        go_ret
        exact ⟨by rw [HF.out]; rfl, by rw [HF.out]; exact CW4.out, KW4.out⟩
    · obtain rfl : k = K := by omega
      have e1 : R2 = (t, 0) := by have := LZ.out.go; rw [Nat.sub_self] at this; exact this.symm
      have HF : Hid (R = (t.layC a b 0, t.layE a 0)) := by show _ = _; rw [HE3.out, e1, if_pos rfl]
      have LY := HLY.out wr t k 0 (Nat.le_refl _) (by omega) LZ.out CA.out KL.out
      have y2 : ¬ (k : Int) < (k : Int) := by omega
      clear LZ CA e1 HE3
      generalize t.layC a b 0 = t2 at *
      generalize t.layE a 0 = E2 at *
      go_wp2_with fail
      refine LY.mono ?_
      rintro e w4' ⟨rfl, c4, k4⟩
      dsimp only
      have KW4 : Hid (KeptL G.blocks w w4') := KL.out.trans k4
      clear k4 LY
      go_wp2
      go_ret
      exact ⟨by rw [HF.out]; rfl, by rw [HF.out]; exact c4, KW4.out⟩
end Go.Proofs.YtcpdanjbnijoiaaGreatDoor
