
import Derived.Test.YtplpoehfdhkhmaaDoorP25PtS
/-! The reference's patch: part, way by way. (Printed by tools/genpt25.py.) -/
namespace Go.Proofs.YtplpoehfdhkhmaaDoor
open Go.RowKit
set_option linter.unusedVariables false

set_option maxHeartbeats 4000000 in
set_option maxRecDepth 100000 in
theorem copy_none (w : World) (gx : Nat) (old new : List By) (bef aft : Nat) (lo : Option Addr) (lc B0 : Nat) (l : List Pt) (HX : PaX w gx old new bef aft lo lc B0 l) (B off n pc : Nat) (p : List By) (hpn : p.length = n) (hp47 : n <= 140737488351232) (hpc : n <= pc) (hp : IsB w (some ⟨B, off, none⟩) p) (a hv : Nat) (ha : a <= 140737488355328) (hhv : hv <= 524288) (ha2 : a < n) (hcb : (p.getD a 0).toNat = 1) (hnn : a + 9 <= n) (N F : Nat) (hN : num4 (p.drop (a + 5)) = N) (hF : num4 (p.drop (a + 1)) = F) (h1 : N < 1) (hres : partR bef aft l p a hv = .error (5, a)) :
    Calls Tryd.prog 24 #[.pointer (some ⟨gx, 0, none⟩), .slice (some ⟨B, off, none⟩) n pc, .int .i64 (a : Int), .int .i64 (hv : Int)] w (PaP w bef aft l p a hv) := by
  obtain ⟨w1, hw1⟩ : ∃ w1, w1 = ((w.alloc (.cells zPt.toArray 65)).alloc (.cells #[.int .i64 0, .int .i64 0] 37)).alloc (.cells #[.int .i64 0, .int .i64 0] 37) := ⟨_, rfl⟩
  have q1 : Hid (P1 w w1) := by rw [hw1]; exact P1.new w
  have HN : Hid (p.length = n) := hpn
  have haft := HX.aft
  have hbef := HX.bef
  have HXX : Hid (PaX w gx old new bef aft lo lc B0 l) := HX
  clear HX hpn
  go_enter Tryd.func24, Tryd.ntmps24
  go_upto_region 3 with (first
    | (have hz := q1; clear hz; rw [<- hw1]; refine wpList_store_Row rfl 37 (.tmp 11) (.tmp 17) rfl (w.heap.size + 2) 37 0 [.int .i64 0, .int .i64 0] [.int .i64 6, .int .i64 (n : Int)] q1.out.r11 (Nat.le_refl _) rfl rfl (by kernel_rfl) (wr2_one _ _) ?_; intro w3 hr3 hs3; have q3 : Hid (P3 w n w3) := P3.new q1.out (row_whole hr3 (Nat.le_refl _)) hs3; clear hr3 hs3 q1 hw1)
    | (have hz := q3; clear hz; refine wpList_store_Row rfl 37 (.tmp 12) (.tmp 19) rfl w3.heap.size 37 0 [.int .i64 0, .int .i64 0] [.int .i64 5, .int .i64 (a : Int)] (Row.at w3 _ _ _ _ rfl rfl) (Nat.le_refl _) rfl rfl (by kernel_rfl) (wr2_one _ _) ?_; intro w4 hr4 hs4; have P4 : Hid (PA w n a w3.heap.size w4) := PA.new q3.out (row_whole hr4 (Nat.le_refl _)) hs4; clear hr4 hs4 q3))
  generalize w3.heap.size = g12 at *
  obtain ⟨nx, hnx⟩ : ∃ nx, nx = a + 9 := ⟨_, rfl⟩
  have z5 : IntKind.i64.wrap ((a : Int) + 9) = (nx : Int) := by rw [i64_in _ (by omega) (by omega)]; omega
  have HNX : Hid (nx = a + 9) := hnx
  have hxl : nx <= 140737488355337 := by omega
  clear hnx
  have y1 : ¬ (n : Int) <= (a : Int) := by omega
  have y0 : (0 : Int) <= (a : Int) := by omega
  have y2 : (a : Int) < (n : Int) := by omega
  have HI : Hid (∀ W, Below w.heap.size w W -> IsB W (some ⟨B, off, none⟩) p) := fun W h => hp.below h (Nat.le_refl _)
  have HCA : Hid (∀ W, Below w.heap.size w W -> W.cell? ⟨B, off + a, none⟩ = some (.int .u8 (1 : Int))) := fun W h => byte_at25 hp HN.out hcb ha2 h
  clear hp hcb
  have c4 := HCA.out _ P4.out.bel
  go_upto_region 6 with (first
    | (have hz := P4; clear hz; refine wpList_store_Row rfl 65 (.tmp 13) (.tmp 31) rfl w4.heap.size 65 0 zPt (ptC false 0 0 (.slice none 0 0)) (Row.at w4 _ _ _ _ rfl rfl) (Nat.le_refl _) rfl rfl (by kernel_rfl) (ptC_one _ _ _ _ _ _) ?_; intro w5 hr5 hs5; have P5 : Hid (PY w n a g12 w4.heap.size (ptC false 0 0 (.slice none 0 0)) w5) := PY.new P4.out (row_whole hr5 (Nat.le_refl _)) hs5; clear hr5 hs5 P4 c4))
  generalize w4.heap.size = G at *
  have c5 := HCA.out _ P5.out.pa.bel
  have c0 := P5.out.ry.cell 0 _ rfl
  have y3 : ¬ (n : Int) < (nx : Int) := by have := HNX.out; omega
  have z6 : IntKind.i64.wrap ((nx : Int) - 4) = (a : Int) + 5 := by have := HNX.out; rw [i64_in _ (by omega) (by omega)]; omega
  have NU : Hid (∀ W, Below w.heap.size w W -> Calls Tryd.prog 40 #[.slice (some ⟨B, off, none⟩) n pc, .int .i64 ((a : Int) + 5)] W fun e w' => e = .returned (.int .i64 (N : Int)) /\ Below W.heap.size W w') := fun W h => by rw [<- hN]; exact r25number_any B off n pc p HN.out (by omega) (a + 5) (by have := HNX.out; omega) W (HI.out W h)
  have hNl : N < 4294967296 := by rw [<- hN]; exact num4_lt _
  have z7 : IntKind.i64.wrap ((a : Int) + 1) = (a : Int) + 1 := i64_in _ (by omega) (by omega)
  have NF : Hid (∀ W, Below w.heap.size w W -> Calls Tryd.prog 40 #[.slice (some ⟨B, off, none⟩) n pc, .int .i64 ((a : Int) + 1)] W fun e w' => e = .returned (.int .i64 (F : Int)) /\ Below W.heap.size W w') := fun W h => by rw [<- hF]; exact r25number_any B off n pc p HN.out (by omega) (a + 1) (by have := HNX.out; omega) W (HI.out W h)
  have hFl : F < 4294967296 := by rw [<- hF]; exact num4_lt _
  clear hN hF
  go_upto_region 16 with (first
    | (have hz := NU; clear hz; go_at_call 40; refine (NU.out _ P5.out.pa.bel).mono ?_; rintro e w6 ⟨rfl, hbA⟩; obtain ⟨w6b, hw6b⟩ : ∃ w6b, w6b = w6.setCell ⟨G, 2, none⟩ (.int .i64 (N : Int)) := ⟨_, rfl⟩; have rA := P5.out.ry.below hbA P5.out.ry.lt; have cA2 := rA.cell 2 _ rfl; have fA2 := rA.frozen 2; have P6 : Hid (PY w n a g12 G (ptC false 0 N (.slice none 0 0)) w6b) := (by rw [hw6b]; exact (P5.out.keep hbA).set 2 _ rfl); have d2 := P6.out.ry.cell 0 _ rfl; clear hbA rA P5 NU c0 c5)
    | (rw [<- hw6b]; clear hw6b cA2 fA2)
    | (have hz := NF; clear hz; go_at_call 40; refine (NF.out _ P6.out.pa.bel).mono ?_; rintro e w6c ⟨rfl, hbA⟩; obtain ⟨w7, hw7⟩ : ∃ w7, w7 = w6c.setCell ⟨G, 1, none⟩ (.int .i64 (F : Int)) := ⟨_, rfl⟩; have rA := P6.out.ry.below hbA P6.out.ry.lt; have cA1 := rA.cell 1 _ rfl; have fA1 := rA.frozen 1; have P7 : Hid (PY w n a g12 G (ptC false F N (.slice none 0 0)) w7) := (by rw [hw7]; exact (P6.out.keep hbA).set 1 _ rfl); have d1 := P7.out.ry.cell 0 _ rfl; clear hbA rA P6 NF)
    | (rw [<- hw7]; clear hw7 cA1 fA1))
  have C0 : Hid (∀ W, Below w7.heap.size w7 W -> W.cell? ⟨G, 0, none⟩ = some (.bool false)) := fun W h => (P7.out.ry.below h P7.out.ry.lt).cell 0 _ rfl
  have C1 : Hid (∀ W, Below w7.heap.size w7 W -> W.cell? ⟨G, 1, none⟩ = some (.int .i64 (F : Int))) := fun W h => (P7.out.ry.below h P7.out.ry.lt).cell 1 _ rfl
  have C2 : Hid (∀ W, Below w7.heap.size w7 W -> W.cell? ⟨G, 2, none⟩ = some (.int .i64 (N : Int))) := fun W h => (P7.out.ry.below h P7.out.ry.lt).cell 2 _ rfl
  have RY : Hid (∀ W, Below w7.heap.size w7 W -> W.rangeAt G 0 (ptC false F N (.slice none 0 0))) := fun W h => (P7.out.ry.below h P7.out.ry.lt).range 0 4
  have XC9 : Hid (∀ W, Below w7.heap.size w7 W -> _) := fun W h => HXX.out.cells (P7.out.pa.bel.trans (h.mono P7.out.pa.bel.size))
  have BH : Hid (∀ W, Below w7.heap.size w7 W -> _) := fun W h => HXX.out.behind (P7.out.pa.bel.trans (h.mono P7.out.pa.bel.size)) false F N
  clear HXX
  have q1 : decide (N < 1) = true := by simp; omega
  have q1' : (N : Int) < 1 := by omega
  refine wp_region_inv (IPT16A w7 G gx hv N aft bef F lo l.length lc (ptC false F N (.slice none 0 0)) false _ _ _ _ _ _ _ _ _ _ _ _ _ _ _ _ _ _ _ _ _ _ _ _ _ _ _ _ _ _ _ _ _ _ _ _ _ _ _ _ _ _ _ _ _ _ _ _ _ _ _ _ _ _ _ _ _ _ _ _ _ _ _ _ _ _ _ _ _ _ _ _ _ _ _ _ _ _ _ _ _ _ _ _ _ _ _ _ _ _ _ _ _ _ _ _ _ _ _ _ _) (by kernel_rfl) (by kernel_rfl) ⟨_, _, _, _, _, _, _, _, _, _, _, _, _, _, _, _, _, _, _, _, _, _, _, _, _, _, _, _, _, _, _, _, _, _, _, _, _, _, _, _, rfl, ⟨(Below.refl _ _).drew, fun k => (by cases k), fun k => (by cases k), fun k => (by cases k), fun k => (by cases k), fun k => (by cases k), fun k => (by cases k), fun k => (by cases k), fun k => (by cases k), fun k => (by cases k), fun k => (by cases k)⟩⟩ ?_ ?_
  · refine .cons ?_ (.cons ?_ (.cons ?_ (.cons ?_ (.cons ?_ (.cons ?_ (.cons ?_ (.cons ?_ (.cons ?_ (.cons ?_ (.cons ?_ (.cons ?_ (.cons ?_ (.cons ?_ (.cons ?_ (.cons ?_ (.cons ?_ (.cons ?_ (.cons ?_ (.cons ?_ (.cons ?_ (.cons ?_ (.cons ?_ (.cons ?_ (.cons ?_ (.cons ?_ (.cons ?_ (.cons ?_ (.cons ?_ (.cons ?_ (.cons ?_ (.cons ?_ (.cons ?_ (.cons ?_ (.cons ?_ (.cons ?_ (.cons ?_ (.cons ?_ (.cons ?_ (.cons ?_ .nil)))))))))))))))))))))))))))))))))))))))
    all_goals (refine PT16A.step ?_; intro x71 x72 x73 x74 x75 x76 x77 x78 x79 x80 x81 x82 x83 x84 x85 x86 x87 x88 x89 x90 x91 x92 x93 x94 x95 x96 x97 x98 x99 x100 x101 x102 x103 x104 x105 x106 x107 x108 x109 x110 L W hI hL hd K hK)
    · rw [if_pos (by rfl)]
      go_simp
      exact hK.out _ _ ⟨_, _, _, _, _, _, _, _, _, _, _, _, _, _, _, _, _, _, _, _, _, _, _, _, _, _, _, _, _, _, _, _, _, _, _, _, _, _, _, _, rfl, { hI with p0 := fun _ => rfl }⟩
    · obtain rfl := hI.p0 (hd 0 (by decide))
      rw [if_pos (by rfl)]
      have hc := C2.out _ hI.x
      go_simp
      exact hK.out _ _ ⟨_, _, _, _, _, _, _, _, _, _, _, _, _, _, _, _, _, _, _, _, _, _, _, _, _, _, _, _, _, _, _, _, _, _, _, _, _, _, _, _, rfl, { hI with p1 := fun _ => rfl }⟩
    · obtain rfl := hI.p1 (hd 1 (by decide))
      rw [if_pos (by rfl)]
      go_simp
      exact hK.out _ _ ⟨_, _, _, _, _, _, _, _, _, _, _, _, _, _, _, _, _, _, _, _, _, _, _, _, _, _, _, _, _, _, _, _, _, _, _, _, _, _, _, _, rfl, { hI with p2 := fun _ => rfl }⟩
    · obtain rfl := hI.p2 (hd 2 (by decide))
      rw [if_pos (by rfl)]
      go_simp
      exact hK.out _ _ ⟨_, _, _, _, _, _, _, _, _, _, _, _, _, _, _, _, _, _, _, _, _, _, _, _, _, _, _, _, _, _, _, _, _, _, _, _, _, _, _, _, rfl, { hI with p3 := fun _ => rfl }⟩
    · obtain rfl := hI.p3 (hd 3 (by decide))
      rw [if_neg (by first | decide | exact Bool.false_ne_true)]
      exact hK.out _ _ ⟨_, _, _, _, _, _, _, _, _, _, _, _, _, _, _, _, _, _, _, _, _, _, _, _, _, _, _, _, _, _, _, _, _, _, _, _, _, _, _, _, rfl, { hI with }⟩
    · obtain rfl := hI.p3 (hd 3 (by decide))
      rw [if_neg (by first | decide | exact Bool.false_ne_true)]
      exact hK.out _ _ ⟨_, _, _, _, _, _, _, _, _, _, _, _, _, _, _, _, _, _, _, _, _, _, _, _, _, _, _, _, _, _, _, _, _, _, _, _, _, _, _, _, rfl, { hI with }⟩
    · obtain rfl := hI.p3 (hd 3 (by decide))
      rw [if_neg (by first | decide | exact Bool.false_ne_true)]
      exact hK.out _ _ ⟨_, _, _, _, _, _, _, _, _, _, _, _, _, _, _, _, _, _, _, _, _, _, _, _, _, _, _, _, _, _, _, _, _, _, _, _, _, _, _, _, rfl, { hI with }⟩
    · obtain rfl := hI.p3 (hd 3 (by decide))
      rw [if_neg (by first | decide | exact Bool.false_ne_true)]
      exact hK.out _ _ ⟨_, _, _, _, _, _, _, _, _, _, _, _, _, _, _, _, _, _, _, _, _, _, _, _, _, _, _, _, _, _, _, _, _, _, _, _, _, _, _, _, rfl, { hI with }⟩
    · obtain rfl := hI.p3 (hd 3 (by decide))
      rw [if_neg (by first | decide | exact Bool.false_ne_true)]
      exact hK.out _ _ ⟨_, _, _, _, _, _, _, _, _, _, _, _, _, _, _, _, _, _, _, _, _, _, _, _, _, _, _, _, _, _, _, _, _, _, _, _, _, _, _, _, rfl, { hI with }⟩
    · obtain rfl := hI.p3 (hd 3 (by decide))
      rw [if_neg (by first | decide | exact Bool.false_ne_true)]
      exact hK.out _ _ ⟨_, _, _, _, _, _, _, _, _, _, _, _, _, _, _, _, _, _, _, _, _, _, _, _, _, _, _, _, _, _, _, _, _, _, _, _, _, _, _, _, rfl, { hI with }⟩
    · obtain rfl := hI.p3 (hd 3 (by decide))
      rw [if_neg (by first | decide | exact Bool.false_ne_true)]
      exact hK.out _ _ ⟨_, _, _, _, _, _, _, _, _, _, _, _, _, _, _, _, _, _, _, _, _, _, _, _, _, _, _, _, _, _, _, _, _, _, _, _, _, _, _, _, rfl, { hI with }⟩
    · obtain rfl := hI.p3 (hd 3 (by decide))
      rw [if_neg (by first | decide | exact Bool.false_ne_true)]
      exact hK.out _ _ ⟨_, _, _, _, _, _, _, _, _, _, _, _, _, _, _, _, _, _, _, _, _, _, _, _, _, _, _, _, _, _, _, _, _, _, _, _, _, _, _, _, rfl, { hI with }⟩
    · obtain rfl := hI.p3 (hd 3 (by decide))
      rw [if_neg (by first | decide | exact Bool.false_ne_true)]
      exact hK.out _ _ ⟨_, _, _, _, _, _, _, _, _, _, _, _, _, _, _, _, _, _, _, _, _, _, _, _, _, _, _, _, _, _, _, _, _, _, _, _, _, _, _, _, rfl, { hI with }⟩
    · obtain rfl := hI.p3 (hd 3 (by decide))
      rw [if_pos (by rfl)]
      go_simp
      exact hK.out _ _ ⟨_, _, _, _, _, _, _, _, _, _, _, _, _, _, _, _, _, _, _, _, _, _, _, _, _, _, _, _, _, _, _, _, _, _, _, _, _, _, _, _, rfl, { hI with p13 := fun _ => rfl }⟩
    · obtain rfl := hI.p13 (hd 13 (by decide))
      rw [if_pos (by rfl)]
      go_simp
      exact hK.out _ _ ⟨_, _, _, _, _, _, _, _, _, _, _, _, _, _, _, _, _, _, _, _, _, _, _, _, _, _, _, _, _, _, _, _, _, _, _, _, _, _, _, _, rfl, { hI with p14 := fun _ => rfl }⟩
    · obtain rfl := hI.p14 (hd 14 (by decide))
      rw [if_neg (by first | decide | exact Bool.false_ne_true)]
      exact hK.out _ _ ⟨_, _, _, _, _, _, _, _, _, _, _, _, _, _, _, _, _, _, _, _, _, _, _, _, _, _, _, _, _, _, _, _, _, _, _, _, _, _, _, _, rfl, { hI with }⟩
    · obtain rfl := hI.p14 (hd 14 (by decide))
      rw [if_neg (by first | decide | exact Bool.false_ne_true)]
      exact hK.out _ _ ⟨_, _, _, _, _, _, _, _, _, _, _, _, _, _, _, _, _, _, _, _, _, _, _, _, _, _, _, _, _, _, _, _, _, _, _, _, _, _, _, _, rfl, { hI with }⟩
    · obtain rfl := hI.p14 (hd 14 (by decide))
      rw [if_neg (by first | decide | exact Bool.false_ne_true)]
      exact hK.out _ _ ⟨_, _, _, _, _, _, _, _, _, _, _, _, _, _, _, _, _, _, _, _, _, _, _, _, _, _, _, _, _, _, _, _, _, _, _, _, _, _, _, _, rfl, { hI with }⟩
    · obtain rfl := hI.p14 (hd 14 (by decide))
      rw [if_neg (by first | decide | exact Bool.false_ne_true)]
      exact hK.out _ _ ⟨_, _, _, _, _, _, _, _, _, _, _, _, _, _, _, _, _, _, _, _, _, _, _, _, _, _, _, _, _, _, _, _, _, _, _, _, _, _, _, _, rfl, { hI with p18 := fun _ => rfl }⟩
    · obtain rfl := hI.p18 (hd 18 (by decide))
      rw [if_neg (by first | decide | exact Bool.false_ne_true)]
      exact hK.out _ _ ⟨_, _, _, _, _, _, _, _, _, _, _, _, _, _, _, _, _, _, _, _, _, _, _, _, _, _, _, _, _, _, _, _, _, _, _, _, _, _, _, _, rfl, { hI with }⟩
    · obtain rfl := hI.p18 (hd 18 (by decide))
      rw [if_neg (by first | decide | exact Bool.false_ne_true)]
      exact hK.out _ _ ⟨_, _, _, _, _, _, _, _, _, _, _, _, _, _, _, _, _, _, _, _, _, _, _, _, _, _, _, _, _, _, _, _, _, _, _, _, _, _, _, _, rfl, { hI with }⟩
    · obtain rfl := hI.p18 (hd 18 (by decide))
      rw [if_neg (by first | decide | exact Bool.false_ne_true)]
      exact hK.out _ _ ⟨_, _, _, _, _, _, _, _, _, _, _, _, _, _, _, _, _, _, _, _, _, _, _, _, _, _, _, _, _, _, _, _, _, _, _, _, _, _, _, _, rfl, { hI with }⟩
    · obtain rfl := hI.p18 (hd 18 (by decide))
      rw [if_neg (by first | decide | exact Bool.false_ne_true)]
      exact hK.out _ _ ⟨_, _, _, _, _, _, _, _, _, _, _, _, _, _, _, _, _, _, _, _, _, _, _, _, _, _, _, _, _, _, _, _, _, _, _, _, _, _, _, _, rfl, { hI with }⟩
    · obtain rfl := hI.p18 (hd 18 (by decide))
      rw [if_neg (by first | decide | exact Bool.false_ne_true)]
      exact hK.out _ _ ⟨_, _, _, _, _, _, _, _, _, _, _, _, _, _, _, _, _, _, _, _, _, _, _, _, _, _, _, _, _, _, _, _, _, _, _, _, _, _, _, _, rfl, { hI with }⟩
    · obtain rfl := hI.p18 (hd 18 (by decide))
      rw [if_neg (by first | decide | exact Bool.false_ne_true)]
      exact hK.out _ _ ⟨_, _, _, _, _, _, _, _, _, _, _, _, _, _, _, _, _, _, _, _, _, _, _, _, _, _, _, _, _, _, _, _, _, _, _, _, _, _, _, _, rfl, { hI with }⟩
    · obtain rfl := hI.p18 (hd 18 (by decide))
      rw [if_neg (by first | decide | exact Bool.false_ne_true)]
      exact hK.out _ _ ⟨_, _, _, _, _, _, _, _, _, _, _, _, _, _, _, _, _, _, _, _, _, _, _, _, _, _, _, _, _, _, _, _, _, _, _, _, _, _, _, _, rfl, { hI with }⟩
    · obtain rfl := hI.p18 (hd 18 (by decide))
      rw [if_neg (by first | decide | exact Bool.false_ne_true)]
      exact hK.out _ _ ⟨_, _, _, _, _, _, _, _, _, _, _, _, _, _, _, _, _, _, _, _, _, _, _, _, _, _, _, _, _, _, _, _, _, _, _, _, _, _, _, _, rfl, { hI with }⟩
    · obtain rfl := hI.p18 (hd 18 (by decide))
      rw [if_neg (by first | decide | exact Bool.false_ne_true)]
      exact hK.out _ _ ⟨_, _, _, _, _, _, _, _, _, _, _, _, _, _, _, _, _, _, _, _, _, _, _, _, _, _, _, _, _, _, _, _, _, _, _, _, _, _, _, _, rfl, { hI with }⟩
    · obtain rfl := hI.p18 (hd 18 (by decide))
      rw [if_neg (by first | decide | exact Bool.false_ne_true)]
      exact hK.out _ _ ⟨_, _, _, _, _, _, _, _, _, _, _, _, _, _, _, _, _, _, _, _, _, _, _, _, _, _, _, _, _, _, _, _, _, _, _, _, _, _, _, _, rfl, { hI with }⟩
    · obtain rfl := hI.p18 (hd 18 (by decide))
      obtain rfl := hI.p14 (hd 14 (by decide))
      rw [if_neg (by first | decide | exact Bool.false_ne_true)]
      exact hK.out _ _ ⟨_, _, _, _, _, _, _, _, _, _, _, _, _, _, _, _, _, _, _, _, _, _, _, _, _, _, _, _, _, _, _, _, _, _, _, _, _, _, _, _, rfl, { hI with }⟩
    · obtain rfl := hI.p14 (hd 14 (by decide))
      rw [if_pos (by rfl)]
      go_simp
      exact hK.out _ _ ⟨_, _, _, _, _, _, _, _, _, _, _, _, _, _, _, _, _, _, _, _, _, _, _, _, _, _, _, _, _, _, _, _, _, _, _, _, _, _, _, _, rfl, { hI with p30 := fun _ => rfl }⟩
    · obtain rfl := hI.p30 (hd 30 (by decide))
      rw [if_pos (by rfl)]
      go_simp
      exact hK.out _ _ ⟨_, _, _, _, _, _, _, _, _, _, _, _, _, _, _, _, _, _, _, _, _, _, _, _, _, _, _, _, _, _, _, _, _, _, _, _, _, _, _, _, rfl, { hI with p31 := fun _ => rfl }⟩
    · obtain rfl := hI.p31 (hd 31 (by decide))
      rw [if_neg (by first | decide | exact Bool.false_ne_true)]
      exact hK.out _ _ ⟨_, _, _, _, _, _, _, _, _, _, _, _, _, _, _, _, _, _, _, _, _, _, _, _, _, _, _, _, _, _, _, _, _, _, _, _, _, _, _, _, rfl, { hI with }⟩
    · obtain rfl := hI.p31 (hd 31 (by decide))
      rw [if_neg (by first | decide | exact Bool.false_ne_true)]
      exact hK.out _ _ ⟨_, _, _, _, _, _, _, _, _, _, _, _, _, _, _, _, _, _, _, _, _, _, _, _, _, _, _, _, _, _, _, _, _, _, _, _, _, _, _, _, rfl, { hI with }⟩
    · obtain rfl := hI.p31 (hd 31 (by decide))
      rw [if_neg (by first | decide | exact Bool.false_ne_true)]
      exact hK.out _ _ ⟨_, _, _, _, _, _, _, _, _, _, _, _, _, _, _, _, _, _, _, _, _, _, _, _, _, _, _, _, _, _, _, _, _, _, _, _, _, _, _, _, rfl, { hI with }⟩
    · obtain rfl := hI.p31 (hd 31 (by decide))
      rw [if_neg (by first | decide | exact Bool.false_ne_true)]
      exact hK.out _ _ ⟨_, _, _, _, _, _, _, _, _, _, _, _, _, _, _, _, _, _, _, _, _, _, _, _, _, _, _, _, _, _, _, _, _, _, _, _, _, _, _, _, rfl, { hI with }⟩
    · obtain rfl := hI.p31 (hd 31 (by decide))
      rw [if_neg (by first | decide | exact Bool.false_ne_true)]
      exact hK.out _ _ ⟨_, _, _, _, _, _, _, _, _, _, _, _, _, _, _, _, _, _, _, _, _, _, _, _, _, _, _, _, _, _, _, _, _, _, _, _, _, _, _, _, rfl, { hI with }⟩
    · obtain rfl := hI.p31 (hd 31 (by decide))
      rw [if_neg (by first | decide | exact Bool.false_ne_true)]
      exact hK.out _ _ ⟨_, _, _, _, _, _, _, _, _, _, _, _, _, _, _, _, _, _, _, _, _, _, _, _, _, _, _, _, _, _, _, _, _, _, _, _, _, _, _, _, rfl, { hI with }⟩
    · obtain rfl := hI.p31 (hd 31 (by decide))
      rw [if_neg (by first | decide | exact Bool.false_ne_true)]
      exact hK.out _ _ ⟨_, _, _, _, _, _, _, _, _, _, _, _, _, _, _, _, _, _, _, _, _, _, _, _, _, _, _, _, _, _, _, _, _, _, _, _, _, _, _, _, rfl, { hI with }⟩
    · obtain rfl := hI.p31 (hd 31 (by decide))
      rw [if_pos (by rfl)]
      go_simp
      exact hK.out _ _ ⟨_, _, _, _, _, _, _, _, _, _, _, _, _, _, _, _, _, _, _, _, _, _, _, _, _, _, _, _, _, _, _, _, _, _, _, _, _, _, _, _, rfl, { hI with p39 := fun _ => rfl }⟩
  · rintro L _ W hall ⟨x71, x72, x73, x74, x75, x76, x77, x78, x79, x80, x81, x82, x83, x84, x85, x86, x87, x88, x89, x90, x91, x92, x93, x94, x95, x96, x97, x98, x99, x100, x101, x102, x103, x104, x105, x106, x107, x108, x109, x110, rfl, hI⟩
    obtain rfl := hI.p0 (hall 0 (by decide))
    obtain rfl := hI.p1 (hall 1 (by decide))
    obtain rfl := hI.p2 (hall 2 (by decide))
    obtain rfl := hI.p3 (hall 3 (by decide))
    obtain rfl := hI.p13 (hall 13 (by decide))
    obtain rfl := hI.p14 (hall 14 (by decide))
    obtain rfl := hI.p18 (hall 18 (by decide))
    obtain rfl := hI.p30 (hall 30 (by decide))
    obtain rfl := hI.p31 (hall 31 (by decide))
    obtain rfl := hI.p39 (hall 39 (by decide))
    have hXe := hI.x
    clear hI hall
    try dsimp only
    have P8 : Hid (PA w n a g12 W) := P7.out.pa.keep hXe
    generalize hW8 : W = w8 at *
    clear hW8 hXe P7 C0 C1 C2 RY XC9 BH
    go_wp2
    obtain ⟨GE, hGE⟩ : ∃ GE : Nat, GE = g12 := ⟨_, rfl⟩
    have HGE : Hid (w.heap.size + 2 <= GE) := by show _ <= _; have := P8.out.gt; omega
    have M3 : Hid (PE w [.int .i64 5, .int .i64 (a : Int)] GE false w8.drew) := ⟨P8.out.r8, P8.out.r10, by rw [hGE]; exact P8.out.r12, P8.out.bel.drew⟩
    rw [<- hGE]
    clear P8 hGE
    refine wp_region_inv (IPT17 w [.int .i64 5, .int .i64 (a : Int)] GE _ _ _ _ _ _ _ _ _ _ _ _ _ _ _ _ _ _ _ _ _ _ _ _ _ _ _ _ _ _ _ _ _ _ _ _ _ _ _ _ _ _ _ _ _ _ _ _ _ _ _ _ _ _ _ _ _ _ _ _ _ _ _ _ _ _ _ _ _ _ _ _ _ _ _ _ _ _ _ _ _ _ _ _ _ _ _ _ _ _ _ _ _ _ _ _ _ _ _ _ _ _ _ _ _ _ _ _ _ _ _ _ _ _ _ _ _ _ _ _ _ _ _ _ _ _ _ _ _ _ _ _ _ _ _ _ _ _) (by kernel_rfl) (by kernel_rfl) ⟨_, _, _, rfl, ⟨M3.out, fun k => (by cases k), fun k => (by cases k), fun k => (by cases k)⟩⟩ ?_ ?_
    · refine .cons ?_ (.cons ?_ (.cons ?_ (.cons ?_ (.cons ?_ .nil))))
      all_goals (rintro L _ W ⟨x111, x112, x9, rfl, hI⟩ hL hd K hK)
      · rw [if_pos (by rfl)]
        go_simp
        exact hK.out _ _ ⟨_, _, _, rfl, { hI with p0 := fun _ => rfl }⟩
      · refine step_load_rng25 (by rfl) 37 _ rfl GE 0 [.int .i64 5, .int .i64 (a : Int)] (by have h5 := hI.x.rE.range 0 2; rw [List.drop_zero, List.take_of_length_le (by exact Nat.le_refl 2)] at h5; exact h5) rfl _ Tryd.underlying37 rfl (by kernel_rfl) ?_
        exact hK.out _ _ ⟨_, _, _, rfl, { hI with p1 := fun _ => rfl }⟩
      · obtain rfl := hI.p0 (hd 0 (by decide))
        refine step_store_Row rfl 65 _ _ rfl w.heap.size 65 zPt zPt hI.x.r8 rfl rfl rfl (by kernel_rfl) zPt_one ?_
        intro W2 hr2 hs2
        have hX := hI.x.s2 HGE.out hr2 hs2
        exact hK.out _ _ ⟨_, _, _, rfl, { hI with x := hX }⟩
      · rw [if_pos (by rfl)]
        go_simp
        exact hK.out _ _ ⟨_, _, _, rfl, { hI with p3 := fun _ => rfl }⟩
      · obtain rfl := hI.p1 (hd 1 (by decide))
        refine step_store_Row rfl 37 _ _ rfl (w.heap.size + 1) 37 [.int .i64 0, .int .i64 0] [.int .i64 5, .int .i64 (a : Int)] (hI.x.no hL) rfl rfl rfl (by kernel_rfl) (wr2_one _ _) ?_
        intro W2 hr2 hs2
        have hX := hI.x.s4 HGE.out hr2 hs2
        exact hK.out _ _ ⟨_, _, _, rfl, { hI with x := hX }⟩
    · rintro L _ W hall ⟨x111, x112, x9, rfl, hI⟩
      obtain rfl := hI.p0 (hall 0 (by decide))
      obtain rfl := hI.p1 (hall 1 (by decide))
      obtain rfl := hI.p3 (hall 3 (by decide))
      have hXe := hI.x
      rw [hall 4 (by decide)] at hXe
      clear hI hall
      try dsimp only
      have hr := hXe.r10
      rw [if_pos rfl] at hr
      have HE : Hid (Row W w.heap.size 65 zPt /\ Below w.heap.size w W) := ⟨hXe.r8, hXe.bel⟩
      clear hXe
      go_wp2
      refine bodyPost_ret_by (results_rtr Tryd.results24 _ W w.heap.size 65 (w.heap.size + 1) 37 _ _ _ _ rfl HE.out.1 Tryd.underlying65 rfl (by kernel_rfl) rfl hr Tryd.underlying37 rfl (by kernel_rfl)) rfl ?_
      exact PaP.err hres HE.out.2

set_option maxHeartbeats 4000000 in
set_option maxRecDepth 100000 in
theorem copy_much (w : World) (gx : Nat) (old new : List By) (bef aft : Nat) (lo : Option Addr) (lc B0 : Nat) (l : List Pt) (HX : PaX w gx old new bef aft lo lc B0 l) (B off n pc : Nat) (p : List By) (hpn : p.length = n) (hp47 : n <= 140737488351232) (hpc : n <= pc) (hp : IsB w (some ⟨B, off, none⟩) p) (a hv : Nat) (ha : a <= 140737488355328) (hhv : hv <= 524288) (ha2 : a < n) (hcb : (p.getD a 0).toNat = 1) (hnn : a + 9 <= n) (N F : Nat) (hN : num4 (p.drop (a + 5)) = N) (hF : num4 (p.drop (a + 1)) = F) (h1 : 1 <= N) (h2 : aft < hv + N) (hres : partR bef aft l p a hv = .error (5, a)) :
    Calls Tryd.prog 24 #[.pointer (some ⟨gx, 0, none⟩), .slice (some ⟨B, off, none⟩) n pc, .int .i64 (a : Int), .int .i64 (hv : Int)] w (PaP w bef aft l p a hv) := by
  obtain ⟨w1, hw1⟩ : ∃ w1, w1 = ((w.alloc (.cells zPt.toArray 65)).alloc (.cells #[.int .i64 0, .int .i64 0] 37)).alloc (.cells #[.int .i64 0, .int .i64 0] 37) := ⟨_, rfl⟩
  have q1 : Hid (P1 w w1) := by rw [hw1]; exact P1.new w
  have HN : Hid (p.length = n) := hpn
  have haft := HX.aft
  have hbef := HX.bef
  have HXX : Hid (PaX w gx old new bef aft lo lc B0 l) := HX
  clear HX hpn
  go_enter Tryd.func24, Tryd.ntmps24
  go_upto_region 3 with (first
    | (have hz := q1; clear hz; rw [<- hw1]; refine wpList_store_Row rfl 37 (.tmp 11) (.tmp 17) rfl (w.heap.size + 2) 37 0 [.int .i64 0, .int .i64 0] [.int .i64 6, .int .i64 (n : Int)] q1.out.r11 (Nat.le_refl _) rfl rfl (by kernel_rfl) (wr2_one _ _) ?_; intro w3 hr3 hs3; have q3 : Hid (P3 w n w3) := P3.new q1.out (row_whole hr3 (Nat.le_refl _)) hs3; clear hr3 hs3 q1 hw1)
    | (have hz := q3; clear hz; refine wpList_store_Row rfl 37 (.tmp 12) (.tmp 19) rfl w3.heap.size 37 0 [.int .i64 0, .int .i64 0] [.int .i64 5, .int .i64 (a : Int)] (Row.at w3 _ _ _ _ rfl rfl) (Nat.le_refl _) rfl rfl (by kernel_rfl) (wr2_one _ _) ?_; intro w4 hr4 hs4; have P4 : Hid (PA w n a w3.heap.size w4) := PA.new q3.out (row_whole hr4 (Nat.le_refl _)) hs4; clear hr4 hs4 q3))
  generalize w3.heap.size = g12 at *
  obtain ⟨nx, hnx⟩ : ∃ nx, nx = a + 9 := ⟨_, rfl⟩
  have z5 : IntKind.i64.wrap ((a : Int) + 9) = (nx : Int) := by rw [i64_in _ (by omega) (by omega)]; omega
  have HNX : Hid (nx = a + 9) := hnx
  have hxl : nx <= 140737488355337 := by omega
  clear hnx
  have y1 : ¬ (n : Int) <= (a : Int) := by omega
  have y0 : (0 : Int) <= (a : Int) := by omega
  have y2 : (a : Int) < (n : Int) := by omega
  have HI : Hid (∀ W, Below w.heap.size w W -> IsB W (some ⟨B, off, none⟩) p) := fun W h => hp.below h (Nat.le_refl _)
  have HCA : Hid (∀ W, Below w.heap.size w W -> W.cell? ⟨B, off + a, none⟩ = some (.int .u8 (1 : Int))) := fun W h => byte_at25 hp HN.out hcb ha2 h
  clear hp hcb
  have c4 := HCA.out _ P4.out.bel
  go_upto_region 6 with (first
    | (have hz := P4; clear hz; refine wpList_store_Row rfl 65 (.tmp 13) (.tmp 31) rfl w4.heap.size 65 0 zPt (ptC false 0 0 (.slice none 0 0)) (Row.at w4 _ _ _ _ rfl rfl) (Nat.le_refl _) rfl rfl (by kernel_rfl) (ptC_one _ _ _ _ _ _) ?_; intro w5 hr5 hs5; have P5 : Hid (PY w n a g12 w4.heap.size (ptC false 0 0 (.slice none 0 0)) w5) := PY.new P4.out (row_whole hr5 (Nat.le_refl _)) hs5; clear hr5 hs5 P4 c4))
  generalize w4.heap.size = G at *
  have c5 := HCA.out _ P5.out.pa.bel
  have c0 := P5.out.ry.cell 0 _ rfl
  have y3 : ¬ (n : Int) < (nx : Int) := by have := HNX.out; omega
  have z6 : IntKind.i64.wrap ((nx : Int) - 4) = (a : Int) + 5 := by have := HNX.out; rw [i64_in _ (by omega) (by omega)]; omega
  have NU : Hid (∀ W, Below w.heap.size w W -> Calls Tryd.prog 40 #[.slice (some ⟨B, off, none⟩) n pc, .int .i64 ((a : Int) + 5)] W fun e w' => e = .returned (.int .i64 (N : Int)) /\ Below W.heap.size W w') := fun W h => by rw [<- hN]; exact r25number_any B off n pc p HN.out (by omega) (a + 5) (by have := HNX.out; omega) W (HI.out W h)
  have hNl : N < 4294967296 := by rw [<- hN]; exact num4_lt _
  have z7 : IntKind.i64.wrap ((a : Int) + 1) = (a : Int) + 1 := i64_in _ (by omega) (by omega)
  have NF : Hid (∀ W, Below w.heap.size w W -> Calls Tryd.prog 40 #[.slice (some ⟨B, off, none⟩) n pc, .int .i64 ((a : Int) + 1)] W fun e w' => e = .returned (.int .i64 (F : Int)) /\ Below W.heap.size W w') := fun W h => by rw [<- hF]; exact r25number_any B off n pc p HN.out (by omega) (a + 1) (by have := HNX.out; omega) W (HI.out W h)
  have hFl : F < 4294967296 := by rw [<- hF]; exact num4_lt _
  clear hN hF
  go_upto_region 16 with (first
    | (have hz := NU; clear hz; go_at_call 40; refine (NU.out _ P5.out.pa.bel).mono ?_; rintro e w6 ⟨rfl, hbA⟩; obtain ⟨w6b, hw6b⟩ : ∃ w6b, w6b = w6.setCell ⟨G, 2, none⟩ (.int .i64 (N : Int)) := ⟨_, rfl⟩; have rA := P5.out.ry.below hbA P5.out.ry.lt; have cA2 := rA.cell 2 _ rfl; have fA2 := rA.frozen 2; have P6 : Hid (PY w n a g12 G (ptC false 0 N (.slice none 0 0)) w6b) := (by rw [hw6b]; exact (P5.out.keep hbA).set 2 _ rfl); have d2 := P6.out.ry.cell 0 _ rfl; clear hbA rA P5 NU c0 c5)
    | (rw [<- hw6b]; clear hw6b cA2 fA2)
    | (have hz := NF; clear hz; go_at_call 40; refine (NF.out _ P6.out.pa.bel).mono ?_; rintro e w6c ⟨rfl, hbA⟩; obtain ⟨w7, hw7⟩ : ∃ w7, w7 = w6c.setCell ⟨G, 1, none⟩ (.int .i64 (F : Int)) := ⟨_, rfl⟩; have rA := P6.out.ry.below hbA P6.out.ry.lt; have cA1 := rA.cell 1 _ rfl; have fA1 := rA.frozen 1; have P7 : Hid (PY w n a g12 G (ptC false F N (.slice none 0 0)) w7) := (by rw [hw7]; exact (P6.out.keep hbA).set 1 _ rfl); have d1 := P7.out.ry.cell 0 _ rfl; clear hbA rA P6 NF)
    | (rw [<- hw7]; clear hw7 cA1 fA1))
  have C0 : Hid (∀ W, Below w7.heap.size w7 W -> W.cell? ⟨G, 0, none⟩ = some (.bool false)) := fun W h => (P7.out.ry.below h P7.out.ry.lt).cell 0 _ rfl
  have C1 : Hid (∀ W, Below w7.heap.size w7 W -> W.cell? ⟨G, 1, none⟩ = some (.int .i64 (F : Int))) := fun W h => (P7.out.ry.below h P7.out.ry.lt).cell 1 _ rfl
  have C2 : Hid (∀ W, Below w7.heap.size w7 W -> W.cell? ⟨G, 2, none⟩ = some (.int .i64 (N : Int))) := fun W h => (P7.out.ry.below h P7.out.ry.lt).cell 2 _ rfl
  have RY : Hid (∀ W, Below w7.heap.size w7 W -> W.rangeAt G 0 (ptC false F N (.slice none 0 0))) := fun W h => (P7.out.ry.below h P7.out.ry.lt).range 0 4
  have XC9 : Hid (∀ W, Below w7.heap.size w7 W -> _) := fun W h => HXX.out.cells (P7.out.pa.bel.trans (h.mono P7.out.pa.bel.size))
  have BH : Hid (∀ W, Below w7.heap.size w7 W -> _) := fun W h => HXX.out.behind (P7.out.pa.bel.trans (h.mono P7.out.pa.bel.size)) false F N
  clear HXX
  have zh : IntKind.i64.wrap ((hv : Int) + (N : Int)) = (hv : Int) + (N : Int) := i64_in _ (by omega) (by omega)
  have q1 : decide (N < 1) = false := by simp; omega
  have q1' : ¬ (N : Int) < 1 := by omega
  have q1'' : decide ((N : Int) < 1) = false := by rw [decide_eq_false_iff_not]; exact q1'
  have q2 : decide (aft < hv + N) = true := by simp; omega
  have q2' : (aft : Int) < (hv : Int) + (N : Int) := by omega
  refine wp_region_inv (IPT16B w7 G gx hv N aft bef F lo l.length lc (ptC false F N (.slice none 0 0)) false _ _ _ _ _ _ _ _ _ _ _ _ _ _ _ _ _ _ _ _ _ _ _ _ _ _ _ _ _ _ _ _ _ _ _ _ _ _ _ _ _ _ _ _ _ _ _ _ _ _ _ _ _ _ _ _ _ _ _ _ _ _ _ _ _ _ _ _ _ _ _ _ _ _ _ _ _ _ _ _ _ _ _ _ _ _ _ _ _ _ _ _ _ _ _ _ _ _ _ _ _) (by kernel_rfl) (by kernel_rfl) ⟨_, _, _, _, _, _, _, _, _, _, _, _, _, _, _, _, _, _, _, _, _, _, _, _, _, _, _, _, _, _, _, _, _, _, _, _, _, _, _, _, rfl, ⟨(Below.refl _ _).drew, fun k => (by cases k), fun k => (by cases k), fun k => (by cases k), fun k => (by cases k), fun k => (by cases k), fun k => (by cases k), fun k => (by cases k), fun k => (by cases k), fun k => (by cases k), fun k => (by cases k), fun k => (by cases k), fun k => (by cases k), fun k => (by cases k), fun k => (by cases k), fun k => (by cases k), fun k => (by cases k), fun k => (by cases k), fun k => (by cases k), fun k => (by cases k)⟩⟩ ?_ ?_
  · refine .cons ?_ (.cons ?_ (.cons ?_ (.cons ?_ (.cons ?_ (.cons ?_ (.cons ?_ (.cons ?_ (.cons ?_ (.cons ?_ (.cons ?_ (.cons ?_ (.cons ?_ (.cons ?_ (.cons ?_ (.cons ?_ (.cons ?_ (.cons ?_ (.cons ?_ (.cons ?_ (.cons ?_ (.cons ?_ (.cons ?_ (.cons ?_ (.cons ?_ (.cons ?_ (.cons ?_ (.cons ?_ (.cons ?_ (.cons ?_ (.cons ?_ (.cons ?_ (.cons ?_ (.cons ?_ (.cons ?_ (.cons ?_ (.cons ?_ (.cons ?_ (.cons ?_ (.cons ?_ .nil)))))))))))))))))))))))))))))))))))))))
    all_goals (refine PT16B.step ?_; intro x71 x72 x73 x74 x75 x76 x77 x78 x79 x80 x81 x82 x83 x84 x85 x86 x87 x88 x89 x90 x91 x92 x93 x94 x95 x96 x97 x98 x99 x100 x101 x102 x103 x104 x105 x106 x107 x108 x109 x110 L W hI hL hd K hK)
    · rw [if_pos (by rfl)]
      go_simp
      exact hK.out _ _ ⟨_, _, _, _, _, _, _, _, _, _, _, _, _, _, _, _, _, _, _, _, _, _, _, _, _, _, _, _, _, _, _, _, _, _, _, _, _, _, _, _, rfl, { hI with p0 := fun _ => rfl }⟩
    · obtain rfl := hI.p0 (hd 0 (by decide))
      rw [if_pos (by rfl)]
      have hc := C2.out _ hI.x
      go_simp
      exact hK.out _ _ ⟨_, _, _, _, _, _, _, _, _, _, _, _, _, _, _, _, _, _, _, _, _, _, _, _, _, _, _, _, _, _, _, _, _, _, _, _, _, _, _, _, rfl, { hI with p1 := fun _ => rfl }⟩
    · obtain rfl := hI.p1 (hd 1 (by decide))
      rw [if_pos (by rfl)]
      go_simp
      exact hK.out _ _ ⟨_, _, _, _, _, _, _, _, _, _, _, _, _, _, _, _, _, _, _, _, _, _, _, _, _, _, _, _, _, _, _, _, _, _, _, _, _, _, _, _, rfl, { hI with p2 := fun _ => rfl }⟩
    · obtain rfl := hI.p2 (hd 2 (by decide))
      rw [if_pos (by rfl)]
      go_simp
      exact hK.out _ _ ⟨_, _, _, _, _, _, _, _, _, _, _, _, _, _, _, _, _, _, _, _, _, _, _, _, _, _, _, _, _, _, _, _, _, _, _, _, _, _, _, _, rfl, { hI with p3 := fun _ => rfl }⟩
    · obtain rfl := hI.p3 (hd 3 (by decide))
      rw [if_pos (by rfl)]
      go_simp
      exact hK.out _ _ ⟨_, _, _, _, _, _, _, _, _, _, _, _, _, _, _, _, _, _, _, _, _, _, _, _, _, _, _, _, _, _, _, _, _, _, _, _, _, _, _, _, rfl, { hI with p4 := fun _ => rfl }⟩
    · obtain rfl := hI.p3 (hd 3 (by decide))
      rw [if_pos (by rfl)]
      go_simp
      exact hK.out _ _ ⟨_, _, _, _, _, _, _, _, _, _, _, _, _, _, _, _, _, _, _, _, _, _, _, _, _, _, _, _, _, _, _, _, _, _, _, _, _, _, _, _, rfl, { hI with p5 := fun _ => rfl }⟩
    · obtain rfl := hI.p5 (hd 5 (by decide))
      obtain rfl := hI.p3 (hd 3 (by decide))
      rw [if_pos (by rfl)]
      have hc := C2.out _ hI.x
      go_simp
      exact hK.out _ _ ⟨_, _, _, _, _, _, _, _, _, _, _, _, _, _, _, _, _, _, _, _, _, _, _, _, _, _, _, _, _, _, _, _, _, _, _, _, _, _, _, _, rfl, { hI with p6 := fun _ => rfl }⟩
    · obtain rfl := hI.p4 (hd 4 (by decide))
      obtain rfl := hI.p6 (hd 6 (by decide))
      obtain rfl := hI.p3 (hd 3 (by decide))
      rw [if_pos (by rfl)]
      go_simp
      exact hK.out _ _ ⟨_, _, _, _, _, _, _, _, _, _, _, _, _, _, _, _, _, _, _, _, _, _, _, _, _, _, _, _, _, _, _, _, _, _, _, _, _, _, _, _, rfl, { hI with p7 := fun _ => rfl }⟩
    · obtain rfl := hI.p3 (hd 3 (by decide))
      rw [if_pos (by rfl)]
      go_simp
      exact hK.out _ _ ⟨_, _, _, _, _, _, _, _, _, _, _, _, _, _, _, _, _, _, _, _, _, _, _, _, _, _, _, _, _, _, _, _, _, _, _, _, _, _, _, _, rfl, { hI with p8 := fun _ => rfl }⟩
    · obtain rfl := hI.p8 (hd 8 (by decide))
      obtain rfl := hI.p3 (hd 3 (by decide))
      rw [if_pos (by rfl)]
      go_simp
      exact hK.out _ _ ⟨_, _, _, _, _, _, _, _, _, _, _, _, _, _, _, _, _, _, _, _, _, _, _, _, _, _, _, _, _, _, _, _, _, _, _, _, _, _, _, _, rfl, { hI with p9 := fun _ => rfl }⟩
    · obtain rfl := hI.p9 (hd 9 (by decide))
      obtain rfl := hI.p3 (hd 3 (by decide))
      rw [if_pos (by rfl)]
      go_simp
      exact hK.out _ _ ⟨_, _, _, _, _, _, _, _, _, _, _, _, _, _, _, _, _, _, _, _, _, _, _, _, _, _, _, _, _, _, _, _, _, _, _, _, _, _, _, _, rfl, { hI with p10 := fun _ => rfl }⟩
    · obtain rfl := hI.p10 (hd 10 (by decide))
      obtain rfl := hI.p3 (hd 3 (by decide))
      rw [if_pos (by rfl)]
      have hc := (XC9.out _ hI.x).2.1
      go_simp
      exact hK.out _ _ ⟨_, _, _, _, _, _, _, _, _, _, _, _, _, _, _, _, _, _, _, _, _, _, _, _, _, _, _, _, _, _, _, _, _, _, _, _, _, _, _, _, rfl, { hI with p11 := fun _ => rfl }⟩
    · obtain rfl := hI.p7 (hd 7 (by decide))
      obtain rfl := hI.p11 (hd 11 (by decide))
      obtain rfl := hI.p3 (hd 3 (by decide))
      rw [if_pos (by rfl)]
      go_simp
      exact hK.out _ _ ⟨_, _, _, _, _, _, _, _, _, _, _, _, _, _, _, _, _, _, _, _, _, _, _, _, _, _, _, _, _, _, _, _, _, _, _, _, _, _, _, _, rfl, { hI with p12 := fun _ => rfl }⟩
    · obtain rfl := hI.p3 (hd 3 (by decide))
      obtain rfl := hI.p12 (hd 12 (by decide))
      rw [if_pos (by rfl)]
      go_simp
      exact hK.out _ _ ⟨_, _, _, _, _, _, _, _, _, _, _, _, _, _, _, _, _, _, _, _, _, _, _, _, _, _, _, _, _, _, _, _, _, _, _, _, _, _, _, _, rfl, { hI with p13 := fun _ => rfl }⟩
    · obtain rfl := hI.p13 (hd 13 (by decide))
      rw [if_pos (by rfl)]
      go_simp
      exact hK.out _ _ ⟨_, _, _, _, _, _, _, _, _, _, _, _, _, _, _, _, _, _, _, _, _, _, _, _, _, _, _, _, _, _, _, _, _, _, _, _, _, _, _, _, rfl, { hI with p14 := fun _ => rfl }⟩
    · obtain rfl := hI.p14 (hd 14 (by decide))
      rw [if_neg (by first | decide | exact Bool.false_ne_true)]
      exact hK.out _ _ ⟨_, _, _, _, _, _, _, _, _, _, _, _, _, _, _, _, _, _, _, _, _, _, _, _, _, _, _, _, _, _, _, _, _, _, _, _, _, _, _, _, rfl, { hI with }⟩
    · obtain rfl := hI.p14 (hd 14 (by decide))
      rw [if_neg (by first | decide | exact Bool.false_ne_true)]
      exact hK.out _ _ ⟨_, _, _, _, _, _, _, _, _, _, _, _, _, _, _, _, _, _, _, _, _, _, _, _, _, _, _, _, _, _, _, _, _, _, _, _, _, _, _, _, rfl, { hI with }⟩
    · obtain rfl := hI.p14 (hd 14 (by decide))
      rw [if_neg (by first | decide | exact Bool.false_ne_true)]
      exact hK.out _ _ ⟨_, _, _, _, _, _, _, _, _, _, _, _, _, _, _, _, _, _, _, _, _, _, _, _, _, _, _, _, _, _, _, _, _, _, _, _, _, _, _, _, rfl, { hI with }⟩
    · obtain rfl := hI.p14 (hd 14 (by decide))
      rw [if_neg (by first | decide | exact Bool.false_ne_true)]
      exact hK.out _ _ ⟨_, _, _, _, _, _, _, _, _, _, _, _, _, _, _, _, _, _, _, _, _, _, _, _, _, _, _, _, _, _, _, _, _, _, _, _, _, _, _, _, rfl, { hI with p18 := fun _ => rfl }⟩
    · obtain rfl := hI.p18 (hd 18 (by decide))
      rw [if_neg (by first | decide | exact Bool.false_ne_true)]
      exact hK.out _ _ ⟨_, _, _, _, _, _, _, _, _, _, _, _, _, _, _, _, _, _, _, _, _, _, _, _, _, _, _, _, _, _, _, _, _, _, _, _, _, _, _, _, rfl, { hI with }⟩
    · obtain rfl := hI.p18 (hd 18 (by decide))
      rw [if_neg (by first | decide | exact Bool.false_ne_true)]
      exact hK.out _ _ ⟨_, _, _, _, _, _, _, _, _, _, _, _, _, _, _, _, _, _, _, _, _, _, _, _, _, _, _, _, _, _, _, _, _, _, _, _, _, _, _, _, rfl, { hI with }⟩
    · obtain rfl := hI.p18 (hd 18 (by decide))
      rw [if_neg (by first | decide | exact Bool.false_ne_true)]
      exact hK.out _ _ ⟨_, _, _, _, _, _, _, _, _, _, _, _, _, _, _, _, _, _, _, _, _, _, _, _, _, _, _, _, _, _, _, _, _, _, _, _, _, _, _, _, rfl, { hI with }⟩
    · obtain rfl := hI.p18 (hd 18 (by decide))
      rw [if_neg (by first | decide | exact Bool.false_ne_true)]
      exact hK.out _ _ ⟨_, _, _, _, _, _, _, _, _, _, _, _, _, _, _, _, _, _, _, _, _, _, _, _, _, _, _, _, _, _, _, _, _, _, _, _, _, _, _, _, rfl, { hI with }⟩
    · obtain rfl := hI.p18 (hd 18 (by decide))
      rw [if_neg (by first | decide | exact Bool.false_ne_true)]
      exact hK.out _ _ ⟨_, _, _, _, _, _, _, _, _, _, _, _, _, _, _, _, _, _, _, _, _, _, _, _, _, _, _, _, _, _, _, _, _, _, _, _, _, _, _, _, rfl, { hI with }⟩
    · obtain rfl := hI.p18 (hd 18 (by decide))
      rw [if_neg (by first | decide | exact Bool.false_ne_true)]
      exact hK.out _ _ ⟨_, _, _, _, _, _, _, _, _, _, _, _, _, _, _, _, _, _, _, _, _, _, _, _, _, _, _, _, _, _, _, _, _, _, _, _, _, _, _, _, rfl, { hI with }⟩
    · obtain rfl := hI.p18 (hd 18 (by decide))
      rw [if_neg (by first | decide | exact Bool.false_ne_true)]
      exact hK.out _ _ ⟨_, _, _, _, _, _, _, _, _, _, _, _, _, _, _, _, _, _, _, _, _, _, _, _, _, _, _, _, _, _, _, _, _, _, _, _, _, _, _, _, rfl, { hI with }⟩
    · obtain rfl := hI.p18 (hd 18 (by decide))
      rw [if_neg (by first | decide | exact Bool.false_ne_true)]
      exact hK.out _ _ ⟨_, _, _, _, _, _, _, _, _, _, _, _, _, _, _, _, _, _, _, _, _, _, _, _, _, _, _, _, _, _, _, _, _, _, _, _, _, _, _, _, rfl, { hI with }⟩
    · obtain rfl := hI.p18 (hd 18 (by decide))
      rw [if_neg (by first | decide | exact Bool.false_ne_true)]
      exact hK.out _ _ ⟨_, _, _, _, _, _, _, _, _, _, _, _, _, _, _, _, _, _, _, _, _, _, _, _, _, _, _, _, _, _, _, _, _, _, _, _, _, _, _, _, rfl, { hI with }⟩
    · obtain rfl := hI.p18 (hd 18 (by decide))
      rw [if_neg (by first | decide | exact Bool.false_ne_true)]
      exact hK.out _ _ ⟨_, _, _, _, _, _, _, _, _, _, _, _, _, _, _, _, _, _, _, _, _, _, _, _, _, _, _, _, _, _, _, _, _, _, _, _, _, _, _, _, rfl, { hI with }⟩
    · obtain rfl := hI.p18 (hd 18 (by decide))
      obtain rfl := hI.p14 (hd 14 (by decide))
      rw [if_neg (by first | decide | exact Bool.false_ne_true)]
      exact hK.out _ _ ⟨_, _, _, _, _, _, _, _, _, _, _, _, _, _, _, _, _, _, _, _, _, _, _, _, _, _, _, _, _, _, _, _, _, _, _, _, _, _, _, _, rfl, { hI with }⟩
    · obtain rfl := hI.p14 (hd 14 (by decide))
      rw [if_pos (by rfl)]
      go_simp
      exact hK.out _ _ ⟨_, _, _, _, _, _, _, _, _, _, _, _, _, _, _, _, _, _, _, _, _, _, _, _, _, _, _, _, _, _, _, _, _, _, _, _, _, _, _, _, rfl, { hI with p30 := fun _ => rfl }⟩
    · obtain rfl := hI.p30 (hd 30 (by decide))
      rw [if_pos (by rfl)]
      go_simp
      exact hK.out _ _ ⟨_, _, _, _, _, _, _, _, _, _, _, _, _, _, _, _, _, _, _, _, _, _, _, _, _, _, _, _, _, _, _, _, _, _, _, _, _, _, _, _, rfl, { hI with p31 := fun _ => rfl }⟩
    · obtain rfl := hI.p31 (hd 31 (by decide))
      rw [if_neg (by first | decide | exact Bool.false_ne_true)]
      exact hK.out _ _ ⟨_, _, _, _, _, _, _, _, _, _, _, _, _, _, _, _, _, _, _, _, _, _, _, _, _, _, _, _, _, _, _, _, _, _, _, _, _, _, _, _, rfl, { hI with }⟩
    · obtain rfl := hI.p31 (hd 31 (by decide))
      rw [if_neg (by first | decide | exact Bool.false_ne_true)]
      exact hK.out _ _ ⟨_, _, _, _, _, _, _, _, _, _, _, _, _, _, _, _, _, _, _, _, _, _, _, _, _, _, _, _, _, _, _, _, _, _, _, _, _, _, _, _, rfl, { hI with }⟩
    · obtain rfl := hI.p31 (hd 31 (by decide))
      rw [if_neg (by first | decide | exact Bool.false_ne_true)]
      exact hK.out _ _ ⟨_, _, _, _, _, _, _, _, _, _, _, _, _, _, _, _, _, _, _, _, _, _, _, _, _, _, _, _, _, _, _, _, _, _, _, _, _, _, _, _, rfl, { hI with }⟩
    · obtain rfl := hI.p31 (hd 31 (by decide))
      rw [if_neg (by first | decide | exact Bool.false_ne_true)]
      exact hK.out _ _ ⟨_, _, _, _, _, _, _, _, _, _, _, _, _, _, _, _, _, _, _, _, _, _, _, _, _, _, _, _, _, _, _, _, _, _, _, _, _, _, _, _, rfl, { hI with }⟩
    · obtain rfl := hI.p31 (hd 31 (by decide))
      rw [if_neg (by first | decide | exact Bool.false_ne_true)]
      exact hK.out _ _ ⟨_, _, _, _, _, _, _, _, _, _, _, _, _, _, _, _, _, _, _, _, _, _, _, _, _, _, _, _, _, _, _, _, _, _, _, _, _, _, _, _, rfl, { hI with }⟩
    · obtain rfl := hI.p31 (hd 31 (by decide))
      rw [if_neg (by first | decide | exact Bool.false_ne_true)]
      exact hK.out _ _ ⟨_, _, _, _, _, _, _, _, _, _, _, _, _, _, _, _, _, _, _, _, _, _, _, _, _, _, _, _, _, _, _, _, _, _, _, _, _, _, _, _, rfl, { hI with }⟩
    · obtain rfl := hI.p31 (hd 31 (by decide))
      rw [if_neg (by first | decide | exact Bool.false_ne_true)]
      exact hK.out _ _ ⟨_, _, _, _, _, _, _, _, _, _, _, _, _, _, _, _, _, _, _, _, _, _, _, _, _, _, _, _, _, _, _, _, _, _, _, _, _, _, _, _, rfl, { hI with }⟩
    · obtain rfl := hI.p31 (hd 31 (by decide))
      rw [if_pos (by rfl)]
      go_simp
      exact hK.out _ _ ⟨_, _, _, _, _, _, _, _, _, _, _, _, _, _, _, _, _, _, _, _, _, _, _, _, _, _, _, _, _, _, _, _, _, _, _, _, _, _, _, _, rfl, { hI with p39 := fun _ => rfl }⟩
  · rintro L _ W hall ⟨x71, x72, x73, x74, x75, x76, x77, x78, x79, x80, x81, x82, x83, x84, x85, x86, x87, x88, x89, x90, x91, x92, x93, x94, x95, x96, x97, x98, x99, x100, x101, x102, x103, x104, x105, x106, x107, x108, x109, x110, rfl, hI⟩
    obtain rfl := hI.p0 (hall 0 (by decide))
    obtain rfl := hI.p1 (hall 1 (by decide))
    obtain rfl := hI.p2 (hall 2 (by decide))
    obtain rfl := hI.p3 (hall 3 (by decide))
    obtain rfl := hI.p4 (hall 4 (by decide))
    obtain rfl := hI.p5 (hall 5 (by decide))
    obtain rfl := hI.p6 (hall 6 (by decide))
    obtain rfl := hI.p7 (hall 7 (by decide))
    obtain rfl := hI.p8 (hall 8 (by decide))
    obtain rfl := hI.p9 (hall 9 (by decide))
    obtain rfl := hI.p10 (hall 10 (by decide))
    obtain rfl := hI.p11 (hall 11 (by decide))
    obtain rfl := hI.p12 (hall 12 (by decide))
    obtain rfl := hI.p13 (hall 13 (by decide))
    obtain rfl := hI.p14 (hall 14 (by decide))
    obtain rfl := hI.p18 (hall 18 (by decide))
    obtain rfl := hI.p30 (hall 30 (by decide))
    obtain rfl := hI.p31 (hall 31 (by decide))
    obtain rfl := hI.p39 (hall 39 (by decide))
    have hXe := hI.x
    clear hI hall
    try dsimp only
    have P8 : Hid (PA w n a g12 W) := P7.out.pa.keep hXe
    generalize hW8 : W = w8 at *
    clear hW8 hXe P7 C0 C1 C2 RY XC9 BH
    go_wp2
    obtain ⟨GE, hGE⟩ : ∃ GE : Nat, GE = g12 := ⟨_, rfl⟩
    have HGE : Hid (w.heap.size + 2 <= GE) := by show _ <= _; have := P8.out.gt; omega
    have M3 : Hid (PE w [.int .i64 5, .int .i64 (a : Int)] GE false w8.drew) := ⟨P8.out.r8, P8.out.r10, by rw [hGE]; exact P8.out.r12, P8.out.bel.drew⟩
    rw [<- hGE]
    clear P8 hGE
    refine wp_region_inv (IPT17 w [.int .i64 5, .int .i64 (a : Int)] GE _ _ _ _ _ _ _ _ _ _ _ _ _ _ _ _ _ _ _ _ _ _ _ _ _ _ _ _ _ _ _ _ _ _ _ _ _ _ _ _ _ _ _ _ _ _ _ _ _ _ _ _ _ _ _ _ _ _ _ _ _ _ _ _ _ _ _ _ _ _ _ _ _ _ _ _ _ _ _ _ _ _ _ _ _ _ _ _ _ _ _ _ _ _ _ _ _ _ _ _ _ _ _ _ _ _ _ _ _ _ _ _ _ _ _ _ _ _ _ _ _ _ _ _ _ _ _ _ _ _ _ _ _ _ _ _ _ _) (by kernel_rfl) (by kernel_rfl) ⟨_, _, _, rfl, ⟨M3.out, fun k => (by cases k), fun k => (by cases k), fun k => (by cases k)⟩⟩ ?_ ?_
    · refine .cons ?_ (.cons ?_ (.cons ?_ (.cons ?_ (.cons ?_ .nil))))
      all_goals (rintro L _ W ⟨x111, x112, x9, rfl, hI⟩ hL hd K hK)
      · rw [if_pos (by rfl)]
        go_simp
        exact hK.out _ _ ⟨_, _, _, rfl, { hI with p0 := fun _ => rfl }⟩
      · refine step_load_rng25 (by rfl) 37 _ rfl GE 0 [.int .i64 5, .int .i64 (a : Int)] (by have h5 := hI.x.rE.range 0 2; rw [List.drop_zero, List.take_of_length_le (by exact Nat.le_refl 2)] at h5; exact h5) rfl _ Tryd.underlying37 rfl (by kernel_rfl) ?_
        exact hK.out _ _ ⟨_, _, _, rfl, { hI with p1 := fun _ => rfl }⟩
      · obtain rfl := hI.p0 (hd 0 (by decide))
        refine step_store_Row rfl 65 _ _ rfl w.heap.size 65 zPt zPt hI.x.r8 rfl rfl rfl (by kernel_rfl) zPt_one ?_
        intro W2 hr2 hs2
        have hX := hI.x.s2 HGE.out hr2 hs2
        exact hK.out _ _ ⟨_, _, _, rfl, { hI with x := hX }⟩
      · rw [if_pos (by rfl)]
        go_simp
        exact hK.out _ _ ⟨_, _, _, rfl, { hI with p3 := fun _ => rfl }⟩
      · obtain rfl := hI.p1 (hd 1 (by decide))
        refine step_store_Row rfl 37 _ _ rfl (w.heap.size + 1) 37 [.int .i64 0, .int .i64 0] [.int .i64 5, .int .i64 (a : Int)] (hI.x.no hL) rfl rfl rfl (by kernel_rfl) (wr2_one _ _) ?_
        intro W2 hr2 hs2
        have hX := hI.x.s4 HGE.out hr2 hs2
        exact hK.out _ _ ⟨_, _, _, rfl, { hI with x := hX }⟩
    · rintro L _ W hall ⟨x111, x112, x9, rfl, hI⟩
      obtain rfl := hI.p0 (hall 0 (by decide))
      obtain rfl := hI.p1 (hall 1 (by decide))
      obtain rfl := hI.p3 (hall 3 (by decide))
      have hXe := hI.x
      rw [hall 4 (by decide)] at hXe
      clear hI hall
      try dsimp only
      have hr := hXe.r10
      rw [if_pos rfl] at hr
      have HE : Hid (Row W w.heap.size 65 zPt /\ Below w.heap.size w W) := ⟨hXe.r8, hXe.bel⟩
      clear hXe
      go_wp2
      refine bodyPost_ret_by (results_rtr Tryd.results24 _ W w.heap.size 65 (w.heap.size + 1) 37 _ _ _ _ rfl HE.out.1 Tryd.underlying65 rfl (by kernel_rfl) rfl hr Tryd.underlying37 rfl (by kernel_rfl)) rfl ?_
      exact PaP.err hres HE.out.2

set_option maxHeartbeats 4000000 in
set_option maxRecDepth 100000 in
theorem copy_beyond (w : World) (gx : Nat) (old new : List By) (bef aft : Nat) (lo : Option Addr) (lc B0 : Nat) (l : List Pt) (HX : PaX w gx old new bef aft lo lc B0 l) (B off n pc : Nat) (p : List By) (hpn : p.length = n) (hp47 : n <= 140737488351232) (hpc : n <= pc) (hp : IsB w (some ⟨B, off, none⟩) p) (a hv : Nat) (ha : a <= 140737488355328) (hhv : hv <= 524288) (ha2 : a < n) (hcb : (p.getD a 0).toNat = 1) (hnn : a + 9 <= n) (N F : Nat) (hN : num4 (p.drop (a + 5)) = N) (hF : num4 (p.drop (a + 1)) = F) (h1 : 1 <= N) (h2 : hv + N <= aft) (h3 : bef < F + N) (hres : partR bef aft l p a hv = .error (5, a)) :
    Calls Tryd.prog 24 #[.pointer (some ⟨gx, 0, none⟩), .slice (some ⟨B, off, none⟩) n pc, .int .i64 (a : Int), .int .i64 (hv : Int)] w (PaP w bef aft l p a hv) := by
  obtain ⟨w1, hw1⟩ : ∃ w1, w1 = ((w.alloc (.cells zPt.toArray 65)).alloc (.cells #[.int .i64 0, .int .i64 0] 37)).alloc (.cells #[.int .i64 0, .int .i64 0] 37) := ⟨_, rfl⟩
  have q1 : Hid (P1 w w1) := by rw [hw1]; exact P1.new w
  have HN : Hid (p.length = n) := hpn
  have haft := HX.aft
  have hbef := HX.bef
  have HXX : Hid (PaX w gx old new bef aft lo lc B0 l) := HX
  clear HX hpn
  go_enter Tryd.func24, Tryd.ntmps24
  go_upto_region 3 with (first
    | (have hz := q1; clear hz; rw [<- hw1]; refine wpList_store_Row rfl 37 (.tmp 11) (.tmp 17) rfl (w.heap.size + 2) 37 0 [.int .i64 0, .int .i64 0] [.int .i64 6, .int .i64 (n : Int)] q1.out.r11 (Nat.le_refl _) rfl rfl (by kernel_rfl) (wr2_one _ _) ?_; intro w3 hr3 hs3; have q3 : Hid (P3 w n w3) := P3.new q1.out (row_whole hr3 (Nat.le_refl _)) hs3; clear hr3 hs3 q1 hw1)
    | (have hz := q3; clear hz; refine wpList_store_Row rfl 37 (.tmp 12) (.tmp 19) rfl w3.heap.size 37 0 [.int .i64 0, .int .i64 0] [.int .i64 5, .int .i64 (a : Int)] (Row.at w3 _ _ _ _ rfl rfl) (Nat.le_refl _) rfl rfl (by kernel_rfl) (wr2_one _ _) ?_; intro w4 hr4 hs4; have P4 : Hid (PA w n a w3.heap.size w4) := PA.new q3.out (row_whole hr4 (Nat.le_refl _)) hs4; clear hr4 hs4 q3))
  generalize w3.heap.size = g12 at *
  obtain ⟨nx, hnx⟩ : ∃ nx, nx = a + 9 := ⟨_, rfl⟩
  have z5 : IntKind.i64.wrap ((a : Int) + 9) = (nx : Int) := by rw [i64_in _ (by omega) (by omega)]; omega
  have HNX : Hid (nx = a + 9) := hnx
  have hxl : nx <= 140737488355337 := by omega
  clear hnx
  have y1 : ¬ (n : Int) <= (a : Int) := by omega
  have y0 : (0 : Int) <= (a : Int) := by omega
  have y2 : (a : Int) < (n : Int) := by omega
  have HI : Hid (∀ W, Below w.heap.size w W -> IsB W (some ⟨B, off, none⟩) p) := fun W h => hp.below h (Nat.le_refl _)
  have HCA : Hid (∀ W, Below w.heap.size w W -> W.cell? ⟨B, off + a, none⟩ = some (.int .u8 (1 : Int))) := fun W h => byte_at25 hp HN.out hcb ha2 h
  clear hp hcb
  have c4 := HCA.out _ P4.out.bel
  go_upto_region 6 with (first
    | (have hz := P4; clear hz; refine wpList_store_Row rfl 65 (.tmp 13) (.tmp 31) rfl w4.heap.size 65 0 zPt (ptC false 0 0 (.slice none 0 0)) (Row.at w4 _ _ _ _ rfl rfl) (Nat.le_refl _) rfl rfl (by kernel_rfl) (ptC_one _ _ _ _ _ _) ?_; intro w5 hr5 hs5; have P5 : Hid (PY w n a g12 w4.heap.size (ptC false 0 0 (.slice none 0 0)) w5) := PY.new P4.out (row_whole hr5 (Nat.le_refl _)) hs5; clear hr5 hs5 P4 c4))
  generalize w4.heap.size = G at *
  have c5 := HCA.out _ P5.out.pa.bel
  have c0 := P5.out.ry.cell 0 _ rfl
  have y3 : ¬ (n : Int) < (nx : Int) := by have := HNX.out; omega
  have z6 : IntKind.i64.wrap ((nx : Int) - 4) = (a : Int) + 5 := by have := HNX.out; rw [i64_in _ (by omega) (by omega)]; omega
  have NU : Hid (∀ W, Below w.heap.size w W -> Calls Tryd.prog 40 #[.slice (some ⟨B, off, none⟩) n pc, .int .i64 ((a : Int) + 5)] W fun e w' => e = .returned (.int .i64 (N : Int)) /\ Below W.heap.size W w') := fun W h => by rw [<- hN]; exact r25number_any B off n pc p HN.out (by omega) (a + 5) (by have := HNX.out; omega) W (HI.out W h)
  have hNl : N < 4294967296 := by rw [<- hN]; exact num4_lt _
  have z7 : IntKind.i64.wrap ((a : Int) + 1) = (a : Int) + 1 := i64_in _ (by omega) (by omega)
  have NF : Hid (∀ W, Below w.heap.size w W -> Calls Tryd.prog 40 #[.slice (some ⟨B, off, none⟩) n pc, .int .i64 ((a : Int) + 1)] W fun e w' => e = .returned (.int .i64 (F : Int)) /\ Below W.heap.size W w') := fun W h => by rw [<- hF]; exact r25number_any B off n pc p HN.out (by omega) (a + 1) (by have := HNX.out; omega) W (HI.out W h)
  have hFl : F < 4294967296 := by rw [<- hF]; exact num4_lt _
  clear hN hF
  go_upto_region 16 with (first
    | (have hz := NU; clear hz; go_at_call 40; refine (NU.out _ P5.out.pa.bel).mono ?_; rintro e w6 ⟨rfl, hbA⟩; obtain ⟨w6b, hw6b⟩ : ∃ w6b, w6b = w6.setCell ⟨G, 2, none⟩ (.int .i64 (N : Int)) := ⟨_, rfl⟩; have rA := P5.out.ry.below hbA P5.out.ry.lt; have cA2 := rA.cell 2 _ rfl; have fA2 := rA.frozen 2; have P6 : Hid (PY w n a g12 G (ptC false 0 N (.slice none 0 0)) w6b) := (by rw [hw6b]; exact (P5.out.keep hbA).set 2 _ rfl); have d2 := P6.out.ry.cell 0 _ rfl; clear hbA rA P5 NU c0 c5)
    | (rw [<- hw6b]; clear hw6b cA2 fA2)
    | (have hz := NF; clear hz; go_at_call 40; refine (NF.out _ P6.out.pa.bel).mono ?_; rintro e w6c ⟨rfl, hbA⟩; obtain ⟨w7, hw7⟩ : ∃ w7, w7 = w6c.setCell ⟨G, 1, none⟩ (.int .i64 (F : Int)) := ⟨_, rfl⟩; have rA := P6.out.ry.below hbA P6.out.ry.lt; have cA1 := rA.cell 1 _ rfl; have fA1 := rA.frozen 1; have P7 : Hid (PY w n a g12 G (ptC false F N (.slice none 0 0)) w7) := (by rw [hw7]; exact (P6.out.keep hbA).set 1 _ rfl); have d1 := P7.out.ry.cell 0 _ rfl; clear hbA rA P6 NF)
    | (rw [<- hw7]; clear hw7 cA1 fA1))
  have C0 : Hid (∀ W, Below w7.heap.size w7 W -> W.cell? ⟨G, 0, none⟩ = some (.bool false)) := fun W h => (P7.out.ry.below h P7.out.ry.lt).cell 0 _ rfl
  have C1 : Hid (∀ W, Below w7.heap.size w7 W -> W.cell? ⟨G, 1, none⟩ = some (.int .i64 (F : Int))) := fun W h => (P7.out.ry.below h P7.out.ry.lt).cell 1 _ rfl
  have C2 : Hid (∀ W, Below w7.heap.size w7 W -> W.cell? ⟨G, 2, none⟩ = some (.int .i64 (N : Int))) := fun W h => (P7.out.ry.below h P7.out.ry.lt).cell 2 _ rfl
  have RY : Hid (∀ W, Below w7.heap.size w7 W -> W.rangeAt G 0 (ptC false F N (.slice none 0 0))) := fun W h => (P7.out.ry.below h P7.out.ry.lt).range 0 4
  have XC9 : Hid (∀ W, Below w7.heap.size w7 W -> _) := fun W h => HXX.out.cells (P7.out.pa.bel.trans (h.mono P7.out.pa.bel.size))
  have BH : Hid (∀ W, Below w7.heap.size w7 W -> _) := fun W h => HXX.out.behind (P7.out.pa.bel.trans (h.mono P7.out.pa.bel.size)) false F N
  clear HXX
  have zh : IntKind.i64.wrap ((hv : Int) + (N : Int)) = (hv : Int) + (N : Int) := i64_in _ (by omega) (by omega)
  have zf2 : IntKind.i64.wrap ((F : Int) + (N : Int)) = (F : Int) + (N : Int) := i64_in _ (by omega) (by omega)
  have q1 : decide (N < 1) = false := by simp; omega
  have q1' : ¬ (N : Int) < 1 := by omega
  have q1'' : decide ((N : Int) < 1) = false := by rw [decide_eq_false_iff_not]; exact q1'
  have q2 : decide (aft < hv + N) = false := by simp; omega
  have q2' : ¬ (aft : Int) < (hv : Int) + (N : Int) := by omega
  have q2'' : decide ((aft : Int) < (hv : Int) + (N : Int)) = false := by rw [decide_eq_false_iff_not]; exact q2'
  have q3 : decide (bef < F + N) = true := by simp; omega
  have q3' : (bef : Int) < (F : Int) + (N : Int) := by omega
  refine wp_region_inv (IPT16D w7 G gx hv N aft bef F lo l.length lc (ptC false F N (.slice none 0 0)) false _ _ _ _ _ _ _ _ _ _ _ _ _ _ _ _ _ _ _ _ _ _ _ _ _ _ _ _ _ _ _ _ _ _ _ _ _ _ _ _ _ _ _ _ _ _ _ _ _ _ _ _ _ _ _ _ _ _ _ _ _ _ _ _ _ _ _ _ _ _ _ _ _ _ _ _ _ _ _ _ _ _ _ _ _ _ _ _ _ _ _ _ _ _ _ _ _ _ _ _ _) (by kernel_rfl) (by kernel_rfl) ⟨_, _, _, _, _, _, _, _, _, _, _, _, _, _, _, _, _, _, _, _, _, _, _, _, _, _, _, _, _, _, _, _, _, _, _, _, _, _, _, _, rfl, ⟨(Below.refl _ _).drew, fun k => (by cases k), fun k => (by cases k), fun k => (by cases k), fun k => (by cases k), fun k => (by cases k), fun k => (by cases k), fun k => (by cases k), fun k => (by cases k), fun k => (by cases k), fun k => (by cases k), fun k => (by cases k), fun k => (by cases k), fun k => (by cases k), fun k => (by cases k), fun k => (by cases k), fun k => (by cases k), fun k => (by cases k), fun k => (by cases k), fun k => (by cases k), fun k => (by cases k), fun k => (by cases k), fun k => (by cases k), fun k => (by cases k), fun k => (by cases k), fun k => (by cases k), fun k => (by cases k), fun k => (by cases k), fun k => (by cases k), fun k => (by cases k), fun k => (by cases k), fun k => (by cases k), fun k => (by cases k), fun k => (by cases k)⟩⟩ ?_ ?_
  · refine .cons ?_ (.cons ?_ (.cons ?_ (.cons ?_ (.cons ?_ (.cons ?_ (.cons ?_ (.cons ?_ (.cons ?_ (.cons ?_ (.cons ?_ (.cons ?_ (.cons ?_ (.cons ?_ (.cons ?_ (.cons ?_ (.cons ?_ (.cons ?_ (.cons ?_ (.cons ?_ (.cons ?_ (.cons ?_ (.cons ?_ (.cons ?_ (.cons ?_ (.cons ?_ (.cons ?_ (.cons ?_ (.cons ?_ (.cons ?_ (.cons ?_ (.cons ?_ (.cons ?_ (.cons ?_ (.cons ?_ (.cons ?_ (.cons ?_ (.cons ?_ (.cons ?_ (.cons ?_ .nil)))))))))))))))))))))))))))))))))))))))
    all_goals (refine PT16D.step ?_; intro x71 x72 x73 x74 x75 x76 x77 x78 x79 x80 x81 x82 x83 x84 x85 x86 x87 x88 x89 x90 x91 x92 x93 x94 x95 x96 x97 x98 x99 x100 x101 x102 x103 x104 x105 x106 x107 x108 x109 x110 L W hI hL hd K hK)
    · rw [if_pos (by rfl)]
      go_simp
      exact hK.out _ _ ⟨_, _, _, _, _, _, _, _, _, _, _, _, _, _, _, _, _, _, _, _, _, _, _, _, _, _, _, _, _, _, _, _, _, _, _, _, _, _, _, _, rfl, { hI with p0 := fun _ => rfl }⟩
    · obtain rfl := hI.p0 (hd 0 (by decide))
      rw [if_pos (by rfl)]
      have hc := C2.out _ hI.x
      go_simp
      exact hK.out _ _ ⟨_, _, _, _, _, _, _, _, _, _, _, _, _, _, _, _, _, _, _, _, _, _, _, _, _, _, _, _, _, _, _, _, _, _, _, _, _, _, _, _, rfl, { hI with p1 := fun _ => rfl }⟩
    · obtain rfl := hI.p1 (hd 1 (by decide))
      rw [if_pos (by rfl)]
      go_simp
      exact hK.out _ _ ⟨_, _, _, _, _, _, _, _, _, _, _, _, _, _, _, _, _, _, _, _, _, _, _, _, _, _, _, _, _, _, _, _, _, _, _, _, _, _, _, _, rfl, { hI with p2 := fun _ => rfl }⟩
    · obtain rfl := hI.p2 (hd 2 (by decide))
      rw [if_pos (by rfl)]
      go_simp
      exact hK.out _ _ ⟨_, _, _, _, _, _, _, _, _, _, _, _, _, _, _, _, _, _, _, _, _, _, _, _, _, _, _, _, _, _, _, _, _, _, _, _, _, _, _, _, rfl, { hI with p3 := fun _ => rfl }⟩
    · obtain rfl := hI.p3 (hd 3 (by decide))
      rw [if_pos (by rfl)]
      go_simp
      exact hK.out _ _ ⟨_, _, _, _, _, _, _, _, _, _, _, _, _, _, _, _, _, _, _, _, _, _, _, _, _, _, _, _, _, _, _, _, _, _, _, _, _, _, _, _, rfl, { hI with p4 := fun _ => rfl }⟩
    · obtain rfl := hI.p3 (hd 3 (by decide))
      rw [if_pos (by rfl)]
      go_simp
      exact hK.out _ _ ⟨_, _, _, _, _, _, _, _, _, _, _, _, _, _, _, _, _, _, _, _, _, _, _, _, _, _, _, _, _, _, _, _, _, _, _, _, _, _, _, _, rfl, { hI with p5 := fun _ => rfl }⟩
    · obtain rfl := hI.p5 (hd 5 (by decide))
      obtain rfl := hI.p3 (hd 3 (by decide))
      rw [if_pos (by rfl)]
      have hc := C2.out _ hI.x
      go_simp
      exact hK.out _ _ ⟨_, _, _, _, _, _, _, _, _, _, _, _, _, _, _, _, _, _, _, _, _, _, _, _, _, _, _, _, _, _, _, _, _, _, _, _, _, _, _, _, rfl, { hI with p6 := fun _ => rfl }⟩
    · obtain rfl := hI.p4 (hd 4 (by decide))
      obtain rfl := hI.p6 (hd 6 (by decide))
      obtain rfl := hI.p3 (hd 3 (by decide))
      rw [if_pos (by rfl)]
      go_simp
      exact hK.out _ _ ⟨_, _, _, _, _, _, _, _, _, _, _, _, _, _, _, _, _, _, _, _, _, _, _, _, _, _, _, _, _, _, _, _, _, _, _, _, _, _, _, _, rfl, { hI with p7 := fun _ => rfl }⟩
    · obtain rfl := hI.p3 (hd 3 (by decide))
      rw [if_pos (by rfl)]
      go_simp
      exact hK.out _ _ ⟨_, _, _, _, _, _, _, _, _, _, _, _, _, _, _, _, _, _, _, _, _, _, _, _, _, _, _, _, _, _, _, _, _, _, _, _, _, _, _, _, rfl, { hI with p8 := fun _ => rfl }⟩
    · obtain rfl := hI.p8 (hd 8 (by decide))
      obtain rfl := hI.p3 (hd 3 (by decide))
      rw [if_pos (by rfl)]
      go_simp
      exact hK.out _ _ ⟨_, _, _, _, _, _, _, _, _, _, _, _, _, _, _, _, _, _, _, _, _, _, _, _, _, _, _, _, _, _, _, _, _, _, _, _, _, _, _, _, rfl, { hI with p9 := fun _ => rfl }⟩
    · obtain rfl := hI.p9 (hd 9 (by decide))
      obtain rfl := hI.p3 (hd 3 (by decide))
      rw [if_pos (by rfl)]
      go_simp
      exact hK.out _ _ ⟨_, _, _, _, _, _, _, _, _, _, _, _, _, _, _, _, _, _, _, _, _, _, _, _, _, _, _, _, _, _, _, _, _, _, _, _, _, _, _, _, rfl, { hI with p10 := fun _ => rfl }⟩
    · obtain rfl := hI.p10 (hd 10 (by decide))
      obtain rfl := hI.p3 (hd 3 (by decide))
      rw [if_pos (by rfl)]
      have hc := (XC9.out _ hI.x).2.1
      go_simp
      exact hK.out _ _ ⟨_, _, _, _, _, _, _, _, _, _, _, _, _, _, _, _, _, _, _, _, _, _, _, _, _, _, _, _, _, _, _, _, _, _, _, _, _, _, _, _, rfl, { hI with p11 := fun _ => rfl }⟩
    · obtain rfl := hI.p7 (hd 7 (by decide))
      obtain rfl := hI.p11 (hd 11 (by decide))
      obtain rfl := hI.p3 (hd 3 (by decide))
      rw [if_pos (by rfl)]
      go_simp
      exact hK.out _ _ ⟨_, _, _, _, _, _, _, _, _, _, _, _, _, _, _, _, _, _, _, _, _, _, _, _, _, _, _, _, _, _, _, _, _, _, _, _, _, _, _, _, rfl, { hI with p12 := fun _ => rfl }⟩
    · obtain rfl := hI.p3 (hd 3 (by decide))
      obtain rfl := hI.p12 (hd 12 (by decide))
      rw [if_pos (by rfl)]
      go_simp
      exact hK.out _ _ ⟨_, _, _, _, _, _, _, _, _, _, _, _, _, _, _, _, _, _, _, _, _, _, _, _, _, _, _, _, _, _, _, _, _, _, _, _, _, _, _, _, rfl, { hI with p13 := fun _ => rfl }⟩
    · obtain rfl := hI.p13 (hd 13 (by decide))
      rw [if_pos (by rfl)]
      go_simp
      exact hK.out _ _ ⟨_, _, _, _, _, _, _, _, _, _, _, _, _, _, _, _, _, _, _, _, _, _, _, _, _, _, _, _, _, _, _, _, _, _, _, _, _, _, _, _, rfl, { hI with p14 := fun _ => rfl }⟩
    · obtain rfl := hI.p14 (hd 14 (by decide))
      rw [if_pos (by rfl)]
      go_simp
      exact hK.out _ _ ⟨_, _, _, _, _, _, _, _, _, _, _, _, _, _, _, _, _, _, _, _, _, _, _, _, _, _, _, _, _, _, _, _, _, _, _, _, _, _, _, _, rfl, { hI with p15 := fun _ => rfl }⟩
    · obtain rfl := hI.p15 (hd 15 (by decide))
      obtain rfl := hI.p14 (hd 14 (by decide))
      rw [if_pos (by rfl)]
      have hc := C0.out _ hI.x
      go_simp
      exact hK.out _ _ ⟨_, _, _, _, _, _, _, _, _, _, _, _, _, _, _, _, _, _, _, _, _, _, _, _, _, _, _, _, _, _, _, _, _, _, _, _, _, _, _, _, rfl, { hI with p16 := fun _ => rfl }⟩
    · obtain rfl := hI.p16 (hd 16 (by decide))
      obtain rfl := hI.p14 (hd 14 (by decide))
      rw [if_pos (by rfl)]
      go_simp
      exact hK.out _ _ ⟨_, _, _, _, _, _, _, _, _, _, _, _, _, _, _, _, _, _, _, _, _, _, _, _, _, _, _, _, _, _, _, _, _, _, _, _, _, _, _, _, rfl, { hI with p17 := fun _ => rfl }⟩
    · obtain rfl := hI.p17 (hd 17 (by decide))
      obtain rfl := hI.p14 (hd 14 (by decide))
      rw [if_pos (by rfl)]
      go_simp
      exact hK.out _ _ ⟨_, _, _, _, _, _, _, _, _, _, _, _, _, _, _, _, _, _, _, _, _, _, _, _, _, _, _, _, _, _, _, _, _, _, _, _, _, _, _, _, rfl, { hI with p18 := fun _ => rfl }⟩
    · obtain rfl := hI.p18 (hd 18 (by decide))
      rw [if_pos (by rfl)]
      go_simp
      exact hK.out _ _ ⟨_, _, _, _, _, _, _, _, _, _, _, _, _, _, _, _, _, _, _, _, _, _, _, _, _, _, _, _, _, _, _, _, _, _, _, _, _, _, _, _, rfl, { hI with p19 := fun _ => rfl }⟩
    · obtain rfl := hI.p19 (hd 19 (by decide))
      obtain rfl := hI.p18 (hd 18 (by decide))
      rw [if_pos (by rfl)]
      have hc := C1.out _ hI.x
      go_simp
      exact hK.out _ _ ⟨_, _, _, _, _, _, _, _, _, _, _, _, _, _, _, _, _, _, _, _, _, _, _, _, _, _, _, _, _, _, _, _, _, _, _, _, _, _, _, _, rfl, { hI with p20 := fun _ => rfl }⟩
    · obtain rfl := hI.p18 (hd 18 (by decide))
      rw [if_pos (by rfl)]
      go_simp
      exact hK.out _ _ ⟨_, _, _, _, _, _, _, _, _, _, _, _, _, _, _, _, _, _, _, _, _, _, _, _, _, _, _, _, _, _, _, _, _, _, _, _, _, _, _, _, rfl, { hI with p21 := fun _ => rfl }⟩
    · obtain rfl := hI.p21 (hd 21 (by decide))
      obtain rfl := hI.p18 (hd 18 (by decide))
      rw [if_pos (by rfl)]
      have hc := C2.out _ hI.x
      go_simp
      exact hK.out _ _ ⟨_, _, _, _, _, _, _, _, _, _, _, _, _, _, _, _, _, _, _, _, _, _, _, _, _, _, _, _, _, _, _, _, _, _, _, _, _, _, _, _, rfl, { hI with p22 := fun _ => rfl }⟩
    · obtain rfl := hI.p20 (hd 20 (by decide))
      obtain rfl := hI.p22 (hd 22 (by decide))
      obtain rfl := hI.p18 (hd 18 (by decide))
      rw [if_pos (by rfl)]
      go_simp
      exact hK.out _ _ ⟨_, _, _, _, _, _, _, _, _, _, _, _, _, _, _, _, _, _, _, _, _, _, _, _, _, _, _, _, _, _, _, _, _, _, _, _, _, _, _, _, rfl, { hI with p23 := fun _ => rfl }⟩
    · obtain rfl := hI.p18 (hd 18 (by decide))
      rw [if_pos (by rfl)]
      go_simp
      exact hK.out _ _ ⟨_, _, _, _, _, _, _, _, _, _, _, _, _, _, _, _, _, _, _, _, _, _, _, _, _, _, _, _, _, _, _, _, _, _, _, _, _, _, _, _, rfl, { hI with p24 := fun _ => rfl }⟩
    · obtain rfl := hI.p24 (hd 24 (by decide))
      obtain rfl := hI.p18 (hd 18 (by decide))
      rw [if_pos (by rfl)]
      go_simp
      exact hK.out _ _ ⟨_, _, _, _, _, _, _, _, _, _, _, _, _, _, _, _, _, _, _, _, _, _, _, _, _, _, _, _, _, _, _, _, _, _, _, _, _, _, _, _, rfl, { hI with p25 := fun _ => rfl }⟩
    · obtain rfl := hI.p25 (hd 25 (by decide))
      obtain rfl := hI.p18 (hd 18 (by decide))
      rw [if_pos (by rfl)]
      go_simp
      exact hK.out _ _ ⟨_, _, _, _, _, _, _, _, _, _, _, _, _, _, _, _, _, _, _, _, _, _, _, _, _, _, _, _, _, _, _, _, _, _, _, _, _, _, _, _, rfl, { hI with p26 := fun _ => rfl }⟩
    · obtain rfl := hI.p26 (hd 26 (by decide))
      obtain rfl := hI.p18 (hd 18 (by decide))
      rw [if_pos (by rfl)]
      have hc := (XC9.out _ hI.x).1
      go_simp
      exact hK.out _ _ ⟨_, _, _, _, _, _, _, _, _, _, _, _, _, _, _, _, _, _, _, _, _, _, _, _, _, _, _, _, _, _, _, _, _, _, _, _, _, _, _, _, rfl, { hI with p27 := fun _ => rfl }⟩
    · obtain rfl := hI.p23 (hd 23 (by decide))
      obtain rfl := hI.p27 (hd 27 (by decide))
      obtain rfl := hI.p18 (hd 18 (by decide))
      rw [if_pos (by rfl)]
      go_simp
      exact hK.out _ _ ⟨_, _, _, _, _, _, _, _, _, _, _, _, _, _, _, _, _, _, _, _, _, _, _, _, _, _, _, _, _, _, _, _, _, _, _, _, _, _, _, _, rfl, { hI with p28 := fun _ => rfl }⟩
    · obtain rfl := hI.p18 (hd 18 (by decide))
      obtain rfl := hI.p28 (hd 28 (by decide))
      obtain rfl := hI.p14 (hd 14 (by decide))
      rw [if_pos (by rfl)]
      go_simp
      exact hK.out _ _ ⟨_, _, _, _, _, _, _, _, _, _, _, _, _, _, _, _, _, _, _, _, _, _, _, _, _, _, _, _, _, _, _, _, _, _, _, _, _, _, _, _, rfl, { hI with p29 := fun _ => rfl }⟩
    · obtain rfl := hI.p14 (hd 14 (by decide))
      obtain rfl := hI.p29 (hd 29 (by decide))
      rw [if_pos (by rfl)]
      go_simp
      exact hK.out _ _ ⟨_, _, _, _, _, _, _, _, _, _, _, _, _, _, _, _, _, _, _, _, _, _, _, _, _, _, _, _, _, _, _, _, _, _, _, _, _, _, _, _, rfl, { hI with p30 := fun _ => rfl }⟩
    · obtain rfl := hI.p30 (hd 30 (by decide))
      rw [if_pos (by rfl)]
      go_simp
      exact hK.out _ _ ⟨_, _, _, _, _, _, _, _, _, _, _, _, _, _, _, _, _, _, _, _, _, _, _, _, _, _, _, _, _, _, _, _, _, _, _, _, _, _, _, _, rfl, { hI with p31 := fun _ => rfl }⟩
    · obtain rfl := hI.p31 (hd 31 (by decide))
      rw [if_neg (by first | decide | exact Bool.false_ne_true)]
      exact hK.out _ _ ⟨_, _, _, _, _, _, _, _, _, _, _, _, _, _, _, _, _, _, _, _, _, _, _, _, _, _, _, _, _, _, _, _, _, _, _, _, _, _, _, _, rfl, { hI with }⟩
    · obtain rfl := hI.p31 (hd 31 (by decide))
      rw [if_neg (by first | decide | exact Bool.false_ne_true)]
      exact hK.out _ _ ⟨_, _, _, _, _, _, _, _, _, _, _, _, _, _, _, _, _, _, _, _, _, _, _, _, _, _, _, _, _, _, _, _, _, _, _, _, _, _, _, _, rfl, { hI with }⟩
    · obtain rfl := hI.p31 (hd 31 (by decide))
      rw [if_neg (by first | decide | exact Bool.false_ne_true)]
      exact hK.out _ _ ⟨_, _, _, _, _, _, _, _, _, _, _, _, _, _, _, _, _, _, _, _, _, _, _, _, _, _, _, _, _, _, _, _, _, _, _, _, _, _, _, _, rfl, { hI with }⟩
    · obtain rfl := hI.p31 (hd 31 (by decide))
      rw [if_neg (by first | decide | exact Bool.false_ne_true)]
      exact hK.out _ _ ⟨_, _, _, _, _, _, _, _, _, _, _, _, _, _, _, _, _, _, _, _, _, _, _, _, _, _, _, _, _, _, _, _, _, _, _, _, _, _, _, _, rfl, { hI with }⟩
    · obtain rfl := hI.p31 (hd 31 (by decide))
      rw [if_neg (by first | decide | exact Bool.false_ne_true)]
      exact hK.out _ _ ⟨_, _, _, _, _, _, _, _, _, _, _, _, _, _, _, _, _, _, _, _, _, _, _, _, _, _, _, _, _, _, _, _, _, _, _, _, _, _, _, _, rfl, { hI with }⟩
    · obtain rfl := hI.p31 (hd 31 (by decide))
      rw [if_neg (by first | decide | exact Bool.false_ne_true)]
      exact hK.out _ _ ⟨_, _, _, _, _, _, _, _, _, _, _, _, _, _, _, _, _, _, _, _, _, _, _, _, _, _, _, _, _, _, _, _, _, _, _, _, _, _, _, _, rfl, { hI with }⟩
    · obtain rfl := hI.p31 (hd 31 (by decide))
      rw [if_neg (by first | decide | exact Bool.false_ne_true)]
      exact hK.out _ _ ⟨_, _, _, _, _, _, _, _, _, _, _, _, _, _, _, _, _, _, _, _, _, _, _, _, _, _, _, _, _, _, _, _, _, _, _, _, _, _, _, _, rfl, { hI with }⟩
    · obtain rfl := hI.p31 (hd 31 (by decide))
      rw [if_pos (by rfl)]
      go_simp
      exact hK.out _ _ ⟨_, _, _, _, _, _, _, _, _, _, _, _, _, _, _, _, _, _, _, _, _, _, _, _, _, _, _, _, _, _, _, _, _, _, _, _, _, _, _, _, rfl, { hI with p39 := fun _ => rfl }⟩
  · rintro L _ W hall ⟨x71, x72, x73, x74, x75, x76, x77, x78, x79, x80, x81, x82, x83, x84, x85, x86, x87, x88, x89, x90, x91, x92, x93, x94, x95, x96, x97, x98, x99, x100, x101, x102, x103, x104, x105, x106, x107, x108, x109, x110, rfl, hI⟩
    obtain rfl := hI.p0 (hall 0 (by decide))
    obtain rfl := hI.p1 (hall 1 (by decide))
    obtain rfl := hI.p2 (hall 2 (by decide))
    obtain rfl := hI.p3 (hall 3 (by decide))
    obtain rfl := hI.p4 (hall 4 (by decide))
    obtain rfl := hI.p5 (hall 5 (by decide))
    obtain rfl := hI.p6 (hall 6 (by decide))
    obtain rfl := hI.p7 (hall 7 (by decide))
    obtain rfl := hI.p8 (hall 8 (by decide))
    obtain rfl := hI.p9 (hall 9 (by decide))
    obtain rfl := hI.p10 (hall 10 (by decide))
    obtain rfl := hI.p11 (hall 11 (by decide))
    obtain rfl := hI.p12 (hall 12 (by decide))
    obtain rfl := hI.p13 (hall 13 (by decide))
    obtain rfl := hI.p14 (hall 14 (by decide))
    obtain rfl := hI.p15 (hall 15 (by decide))
    obtain rfl := hI.p16 (hall 16 (by decide))
    obtain rfl := hI.p17 (hall 17 (by decide))
    obtain rfl := hI.p18 (hall 18 (by decide))
    obtain rfl := hI.p19 (hall 19 (by decide))
    obtain rfl := hI.p20 (hall 20 (by decide))
    obtain rfl := hI.p21 (hall 21 (by decide))
    obtain rfl := hI.p22 (hall 22 (by decide))
    obtain rfl := hI.p23 (hall 23 (by decide))
    obtain rfl := hI.p24 (hall 24 (by decide))
    obtain rfl := hI.p25 (hall 25 (by decide))
    obtain rfl := hI.p26 (hall 26 (by decide))
    obtain rfl := hI.p27 (hall 27 (by decide))
    obtain rfl := hI.p28 (hall 28 (by decide))
    obtain rfl := hI.p29 (hall 29 (by decide))
    obtain rfl := hI.p30 (hall 30 (by decide))
    obtain rfl := hI.p31 (hall 31 (by decide))
    obtain rfl := hI.p39 (hall 39 (by decide))
    have hXe := hI.x
    clear hI hall
    try dsimp only
    have P8 : Hid (PA w n a g12 W) := P7.out.pa.keep hXe
    generalize hW8 : W = w8 at *
    clear hW8 hXe P7 C0 C1 C2 RY XC9 BH
    go_wp2
    obtain ⟨GE, hGE⟩ : ∃ GE : Nat, GE = g12 := ⟨_, rfl⟩
    have HGE : Hid (w.heap.size + 2 <= GE) := by show _ <= _; have := P8.out.gt; omega
    have M3 : Hid (PE w [.int .i64 5, .int .i64 (a : Int)] GE false w8.drew) := ⟨P8.out.r8, P8.out.r10, by rw [hGE]; exact P8.out.r12, P8.out.bel.drew⟩
    rw [<- hGE]
    clear P8 hGE
    refine wp_region_inv (IPT17 w [.int .i64 5, .int .i64 (a : Int)] GE _ _ _ _ _ _ _ _ _ _ _ _ _ _ _ _ _ _ _ _ _ _ _ _ _ _ _ _ _ _ _ _ _ _ _ _ _ _ _ _ _ _ _ _ _ _ _ _ _ _ _ _ _ _ _ _ _ _ _ _ _ _ _ _ _ _ _ _ _ _ _ _ _ _ _ _ _ _ _ _ _ _ _ _ _ _ _ _ _ _ _ _ _ _ _ _ _ _ _ _ _ _ _ _ _ _ _ _ _ _ _ _ _ _ _ _ _ _ _ _ _ _ _ _ _ _ _ _ _ _ _ _ _ _ _ _ _ _) (by kernel_rfl) (by kernel_rfl) ⟨_, _, _, rfl, ⟨M3.out, fun k => (by cases k), fun k => (by cases k), fun k => (by cases k)⟩⟩ ?_ ?_
    · refine .cons ?_ (.cons ?_ (.cons ?_ (.cons ?_ (.cons ?_ .nil))))
      all_goals (rintro L _ W ⟨x111, x112, x9, rfl, hI⟩ hL hd K hK)
      · rw [if_pos (by rfl)]
        go_simp
        exact hK.out _ _ ⟨_, _, _, rfl, { hI with p0 := fun _ => rfl }⟩
      · refine step_load_rng25 (by rfl) 37 _ rfl GE 0 [.int .i64 5, .int .i64 (a : Int)] (by have h5 := hI.x.rE.range 0 2; rw [List.drop_zero, List.take_of_length_le (by exact Nat.le_refl 2)] at h5; exact h5) rfl _ Tryd.underlying37 rfl (by kernel_rfl) ?_
        exact hK.out _ _ ⟨_, _, _, rfl, { hI with p1 := fun _ => rfl }⟩
      · obtain rfl := hI.p0 (hd 0 (by decide))
        refine step_store_Row rfl 65 _ _ rfl w.heap.size 65 zPt zPt hI.x.r8 rfl rfl rfl (by kernel_rfl) zPt_one ?_
        intro W2 hr2 hs2
        have hX := hI.x.s2 HGE.out hr2 hs2
        exact hK.out _ _ ⟨_, _, _, rfl, { hI with x := hX }⟩
      · rw [if_pos (by rfl)]
        go_simp
        exact hK.out _ _ ⟨_, _, _, rfl, { hI with p3 := fun _ => rfl }⟩
      · obtain rfl := hI.p1 (hd 1 (by decide))
        refine step_store_Row rfl 37 _ _ rfl (w.heap.size + 1) 37 [.int .i64 0, .int .i64 0] [.int .i64 5, .int .i64 (a : Int)] (hI.x.no hL) rfl rfl rfl (by kernel_rfl) (wr2_one _ _) ?_
        intro W2 hr2 hs2
        have hX := hI.x.s4 HGE.out hr2 hs2
        exact hK.out _ _ ⟨_, _, _, rfl, { hI with x := hX }⟩
    · rintro L _ W hall ⟨x111, x112, x9, rfl, hI⟩
      obtain rfl := hI.p0 (hall 0 (by decide))
      obtain rfl := hI.p1 (hall 1 (by decide))
      obtain rfl := hI.p3 (hall 3 (by decide))
      have hXe := hI.x
      rw [hall 4 (by decide)] at hXe
      clear hI hall
      try dsimp only
      have hr := hXe.r10
      rw [if_pos rfl] at hr
      have HE : Hid (Row W w.heap.size 65 zPt /\ Below w.heap.size w W) := ⟨hXe.r8, hXe.bel⟩
      clear hXe
      go_wp2
      refine bodyPost_ret_by (results_rtr Tryd.results24 _ W w.heap.size 65 (w.heap.size + 1) 37 _ _ _ _ rfl HE.out.1 Tryd.underlying65 rfl (by kernel_rfl) rfl hr Tryd.underlying37 rfl (by kernel_rfl)) rfl ?_
      exact PaP.err hres HE.out.2
end Go.Proofs.YtplpoehfdhkhmaaDoor
