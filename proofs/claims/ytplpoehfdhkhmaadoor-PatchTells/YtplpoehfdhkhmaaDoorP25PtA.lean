
import Derived.Test.YtplpoehfdhkhmaaDoorP25PtS
/-! The reference's patch: part, way by way. (Printed by tools/genpt25.py.) -/
namespace Go.Proofs.YtplpoehfdhkhmaaDoor
open Go.RowKit
set_option linter.unusedVariables false

set_option maxHeartbeats 4000000 in
set_option maxRecDepth 100000 in
theorem part_end (w : World) (gx : Nat) (old new : List By) (bef aft : Nat) (lo : Option Addr) (lc B0 : Nat) (l : List Pt) (HX : PaX w gx old new bef aft lo lc B0 l) (po : Option Addr) (n pc : Nat) (p : List By) (hpn : p.length = n) (hp47 : n <= 140737488351232) (hpc : n <= pc) (a hv : Nat) (ha : a <= 140737488355328) (hhv : hv <= 524288) (ha2 : n <= a) (hres : partR bef aft l p a hv = .error (6, n)) :
    Calls Tryd.prog 24 #[.pointer (some ⟨gx, 0, none⟩), .slice po n pc, .int .i64 (a : Int), .int .i64 (hv : Int)] w (PaP w bef aft l p a hv) := by
  obtain ⟨w1, hw1⟩ : ∃ w1, w1 = ((w.alloc (.cells zPt.toArray 65)).alloc (.cells #[.int .i64 0, .int .i64 0] 37)).alloc (.cells #[.int .i64 0, .int .i64 0] 37) := ⟨_, rfl⟩
  have q1 : Hid (P1 w w1) := by rw [hw1]; exact P1.new w
  have HN : Hid (p.length = n) := hpn
  have haft := HX.aft
  have hbef := HX.bef
  have HXX : Hid (PaX w gx old new bef aft lo lc B0 l) := HX
  clear HX hpn
  go_enter Tryd.func24, Tryd.ntmps24
  go_upto_region 3 with (first
    | (have hz := q1; clear hz; rw [<- hw1]; refine wpList_store_Row rfl 37 (.tmp 11) (.tmp 17) rfl (w.heap.size + 2) 37 0 [.int .i64 0, .int .i64 0] [.int .i64 6, .int .i64 (n : Int)] q1.out.r11 (Nat.le_refl _) rfl rfl (by kernel_rfl) (wr2_one _ _) ?_; intro w3 hr3 hs3; have q3 : Hid (P3 w n w3) := P3.new q1.out (row_whole hr3 (Nat.le_refl _)) hs3; clear hr3 hs3 q1 hw1)
    | (have hz := q3; clear hz; refine wpList_store_Row rfl 37 (.tmp 12) (.tmp 19) rfl w3.heap.size 37 0 [.int .i64 0, .int .i64 0] [.int .i64 5, .int .i64 (a : Int)] (Row.at w3 _ _ _ _ rfl rfl) (Nat.le_refl _) rfl rfl (by kernel_rfl) (wr2_one _ _) ?_; intro w4 hr4 hs4; have P4 : Hid (PA w n a w3.heap.size w4) := PA.new q3.out (row_whole hr4 (Nat.le_refl _)) hs4; clear hr4 hs4 q3))
  generalize w3.heap.size = g12 at *
  have y1 : (n : Int) <= (a : Int) := by omega
  go_wp2
  obtain ⟨GE, hGE⟩ : ∃ GE : Nat, GE = (w.heap.size + 2) := ⟨_, rfl⟩
  have HGE : Hid (w.heap.size + 2 <= GE) := by show _ <= _; have := P4.out.gt; omega
  have M3 : Hid (PE w [.int .i64 6, .int .i64 (n : Int)] GE false w4.drew) := ⟨P4.out.r8, P4.out.r10, by rw [hGE]; exact P4.out.r11, P4.out.bel.drew⟩
  rw [<- hGE]
  clear P4 hGE
  refine wp_region_inv (IPT4 w [.int .i64 6, .int .i64 (n : Int)] GE _ _ _ _ _ _ _ _ _ _ _ _ _ _ _ _ _ _ _ _ _ _ _ _ _ _ _ _ _ _ _ _ _ _ _ _ _ _ _ _ _ _ _ _ _ _ _ _ _ _ _ _ _ _ _ _ _ _ _ _ _ _ _ _ _ _ _ _ _ _ _ _ _ _ _ _ _ _ _ _ _ _ _ _ _ _ _ _ _ _ _ _ _ _ _ _ _ _ _ _ _ _ _ _ _ _ _ _ _ _ _ _ _ _ _ _ _ _ _ _ _ _ _ _ _ _ _ _ _ _ _ _ _ _ _ _ _ _) (by kernel_rfl) (by kernel_rfl) ⟨_, _, _, rfl, ⟨M3.out, fun k => (by cases k), fun k => (by cases k), fun k => (by cases k)⟩⟩ ?_ ?_
  · refine .cons ?_ (.cons ?_ (.cons ?_ (.cons ?_ (.cons ?_ .nil))))
    all_goals (rintro L _ W ⟨x24, x25, x9, rfl, hI⟩ hL hd K hK)
    · rw [if_pos (by rfl)]
      go_simp
      exact hK.out _ _ ⟨_, _, _, rfl, { hI with p0 := fun _ => rfl }⟩
    · refine step_load_rng25 (by rfl) 37 _ rfl GE 0 [.int .i64 6, .int .i64 (n : Int)] (by have h5 := hI.x.rE.range 0 2; rw [List.drop_zero, List.take_of_length_le (by exact Nat.le_refl 2)] at h5; exact h5) rfl _ Tryd.underlying37 rfl (by kernel_rfl) ?_
      exact hK.out _ _ ⟨_, _, _, rfl, { hI with p1 := fun _ => rfl }⟩
    · obtain rfl := hI.p0 (hd 0 (by decide))
      refine step_store_Row rfl 65 _ _ rfl w.heap.size 65 zPt zPt hI.x.r8 rfl rfl rfl (by kernel_rfl) zPt_one ?_
      intro W2 hr2 hs2
      have hX := hI.x.s2 HGE.out hr2 hs2
      exact hK.out _ _ ⟨_, _, _, rfl, { hI with x := hX }⟩
    · rw [if_pos (by rfl)]
      go_simp
      exact hK.out _ _ ⟨_, _, _, rfl, { hI with p3 := fun _ => rfl }⟩
    · obtain rfl := hI.p1 (hd 1 (by decide))
      refine step_store_Row rfl 37 _ _ rfl (w.heap.size + 1) 37 [.int .i64 0, .int .i64 0] [.int .i64 6, .int .i64 (n : Int)] (hI.x.no hL) rfl rfl rfl (by kernel_rfl) (wr2_one _ _) ?_
      intro W2 hr2 hs2
      have hX := hI.x.s4 HGE.out hr2 hs2
      exact hK.out _ _ ⟨_, _, _, rfl, { hI with x := hX }⟩
  · rintro L _ W hall ⟨x24, x25, x9, rfl, hI⟩
    obtain rfl := hI.p0 (hall 0 (by decide))
    obtain rfl := hI.p1 (hall 1 (by decide))
    obtain rfl := hI.p3 (hall 3 (by decide))
    have hXe := hI.x
    rw [hall 4 (by decide)] at hXe
    clear hI hall
    try dsimp only
    have hr := hXe.r10
    rw [if_pos rfl] at hr
    have HE : Hid (Row W w.heap.size 65 zPt /\ Below w.heap.size w W) := ⟨hXe.r8, hXe.bel⟩
    clear hXe
    go_wp2
    refine bodyPost_ret_by (results_rtr Tryd.results24 _ W w.heap.size 65 (w.heap.size + 1) 37 _ _ _ _ rfl HE.out.1 Tryd.underlying65 rfl (by kernel_rfl) rfl hr Tryd.underlying37 rfl (by kernel_rfl)) rfl ?_
    exact PaP.err hres HE.out.2

set_option maxHeartbeats 4000000 in
set_option maxRecDepth 100000 in
theorem part_kind (w : World) (gx : Nat) (old new : List By) (bef aft : Nat) (lo : Option Addr) (lc B0 : Nat) (l : List Pt) (HX : PaX w gx old new bef aft lo lc B0 l) (B off n pc : Nat) (p : List By) (hpn : p.length = n) (hp47 : n <= 140737488351232) (hpc : n <= pc) (hp : IsB w (some ⟨B, off, none⟩) p) (a hv : Nat) (ha : a <= 140737488355328) (hhv : hv <= 524288) (ha2 : a < n) (cb : Nat) (hcb : (p.getD a 0).toNat = cb) (h1 : cb ≠ 1) (h2 : cb ≠ 2) (hres : partR bef aft l p a hv = .error (5, a)) :
    Calls Tryd.prog 24 #[.pointer (some ⟨gx, 0, none⟩), .slice (some ⟨B, off, none⟩) n pc, .int .i64 (a : Int), .int .i64 (hv : Int)] w (PaP w bef aft l p a hv) := by
  obtain ⟨w1, hw1⟩ : ∃ w1, w1 = ((w.alloc (.cells zPt.toArray 65)).alloc (.cells #[.int .i64 0, .int .i64 0] 37)).alloc (.cells #[.int .i64 0, .int .i64 0] 37) := ⟨_, rfl⟩
  have q1 : Hid (P1 w w1) := by rw [hw1]; exact P1.new w
  have HN : Hid (p.length = n) := hpn
  have haft := HX.aft
  have hbef := HX.bef
  have HXX : Hid (PaX w gx old new bef aft lo lc B0 l) := HX
  clear HX hpn
  go_enter Tryd.func24, Tryd.ntmps24
  go_upto_region 3 with (first
    | (have hz := q1; clear hz; rw [<- hw1]; refine wpList_store_Row rfl 37 (.tmp 11) (.tmp 17) rfl (w.heap.size + 2) 37 0 [.int .i64 0, .int .i64 0] [.int .i64 6, .int .i64 (n : Int)] q1.out.r11 (Nat.le_refl _) rfl rfl (by kernel_rfl) (wr2_one _ _) ?_; intro w3 hr3 hs3; have q3 : Hid (P3 w n w3) := P3.new q1.out (row_whole hr3 (Nat.le_refl _)) hs3; clear hr3 hs3 q1 hw1)
    | (have hz := q3; clear hz; refine wpList_store_Row rfl 37 (.tmp 12) (.tmp 19) rfl w3.heap.size 37 0 [.int .i64 0, .int .i64 0] [.int .i64 5, .int .i64 (a : Int)] (Row.at w3 _ _ _ _ rfl rfl) (Nat.le_refl _) rfl rfl (by kernel_rfl) (wr2_one _ _) ?_; intro w4 hr4 hs4; have P4 : Hid (PA w n a w3.heap.size w4) := PA.new q3.out (row_whole hr4 (Nat.le_refl _)) hs4; clear hr4 hs4 q3))
  generalize w3.heap.size = g12 at *
  have y1 : ¬ (n : Int) <= (a : Int) := by omega
  have y0 : (0 : Int) <= (a : Int) := by omega
  have y2 : (a : Int) < (n : Int) := by omega
  have HI : Hid (∀ W, Below w.heap.size w W -> IsB W (some ⟨B, off, none⟩) p) := fun W h => hp.below h (Nat.le_refl _)
  have HCA : Hid (∀ W, Below w.heap.size w W -> W.cell? ⟨B, off + a, none⟩ = some (.int .u8 (cb : Int))) := fun W h => byte_at25 hp HN.out hcb ha2 h
  clear hp hcb
  have c4 := HCA.out _ P4.out.bel
  have x1 : ((cb : Int) != 1) = true := by rw [bne_iff_ne]; omega
  have x3 : ((cb : Int) != 2) = true := by rw [bne_iff_ne]; omega
  have x2 : ((cb : Int) == 2) = false := by rw [beq_eq_false_iff_ne]; omega
  go_upto_region 6 with (first
    | (have hz := P4; clear hz; refine wpList_store_Row rfl 65 (.tmp 13) (.tmp 31) rfl w4.heap.size 65 0 zPt (ptC false 0 0 (.slice none 0 0)) (Row.at w4 _ _ _ _ rfl rfl) (Nat.le_refl _) rfl rfl (by kernel_rfl) (ptC_one _ _ _ _ _ _) ?_; intro w5 hr5 hs5; have P5 : Hid (PY w n a g12 w4.heap.size (ptC false 0 0 (.slice none 0 0)) w5) := PY.new P4.out (row_whole hr5 (Nat.le_refl _)) hs5; clear hr5 hs5 P4 c4))
  generalize w4.heap.size = G at *
  have c5 := HCA.out _ P5.out.pa.bel
  have c0 := P5.out.ry.cell 0 _ rfl
  have P6 : Hid (PA w n a g12 w5) := P5.out.pa
  clear P5
  go_wp2
  obtain ⟨GE, hGE⟩ : ∃ GE : Nat, GE = g12 := ⟨_, rfl⟩
  have HGE : Hid (w.heap.size + 2 <= GE) := by show _ <= _; have := P6.out.gt; omega
  have M3 : Hid (PE w [.int .i64 5, .int .i64 (a : Int)] GE false w5.drew) := ⟨P6.out.r8, P6.out.r10, by rw [hGE]; exact P6.out.r12, P6.out.bel.drew⟩
  rw [<- hGE]
  clear P6 hGE
  refine wp_region_inv (IPT7 w [.int .i64 5, .int .i64 (a : Int)] GE _ _ _ _ _ _ _ _ _ _ _ _ _ _ _ _ _ _ _ _ _ _ _ _ _ _ _ _ _ _ _ _ _ _ _ _ _ _ _ _ _ _ _ _ _ _ _ _ _ _ _ _ _ _ _ _ _ _ _ _ _ _ _ _ _ _ _ _ _ _ _ _ _ _ _ _ _ _ _ _ _ _ _ _ _ _ _ _ _ _ _ _ _ _ _ _ _ _ _ _ _ _ _ _ _ _ _ _ _ _ _ _ _ _ _ _ _ _ _ _ _ _ _ _ _ _ _ _ _ _ _ _ _ _ _ _ _ _) (by kernel_rfl) (by kernel_rfl) ⟨_, _, _, rfl, ⟨M3.out, fun k => (by cases k), fun k => (by cases k), fun k => (by cases k)⟩⟩ ?_ ?_
  · refine .cons ?_ (.cons ?_ (.cons ?_ (.cons ?_ (.cons ?_ .nil))))
    all_goals (rintro L _ W ⟨x44, x45, x9, rfl, hI⟩ hL hd K hK)
    · rw [if_pos (by rfl)]
      go_simp
      exact hK.out _ _ ⟨_, _, _, rfl, { hI with p0 := fun _ => rfl }⟩
    · refine step_load_rng25 (by rfl) 37 _ rfl GE 0 [.int .i64 5, .int .i64 (a : Int)] (by have h5 := hI.x.rE.range 0 2; rw [List.drop_zero, List.take_of_length_le (by exact Nat.le_refl 2)] at h5; exact h5) rfl _ Tryd.underlying37 rfl (by kernel_rfl) ?_
      exact hK.out _ _ ⟨_, _, _, rfl, { hI with p1 := fun _ => rfl }⟩
    · obtain rfl := hI.p0 (hd 0 (by decide))
      refine step_store_Row rfl 65 _ _ rfl w.heap.size 65 zPt zPt hI.x.r8 rfl rfl rfl (by kernel_rfl) zPt_one ?_
      intro W2 hr2 hs2
      have hX := hI.x.s2 HGE.out hr2 hs2
      exact hK.out _ _ ⟨_, _, _, rfl, { hI with x := hX }⟩
    · rw [if_pos (by rfl)]
      go_simp
      exact hK.out _ _ ⟨_, _, _, rfl, { hI with p3 := fun _ => rfl }⟩
    · obtain rfl := hI.p1 (hd 1 (by decide))
      refine step_store_Row rfl 37 _ _ rfl (w.heap.size + 1) 37 [.int .i64 0, .int .i64 0] [.int .i64 5, .int .i64 (a : Int)] (hI.x.no hL) rfl rfl rfl (by kernel_rfl) (wr2_one _ _) ?_
      intro W2 hr2 hs2
      have hX := hI.x.s4 HGE.out hr2 hs2
      exact hK.out _ _ ⟨_, _, _, rfl, { hI with x := hX }⟩
  · rintro L _ W hall ⟨x44, x45, x9, rfl, hI⟩
    obtain rfl := hI.p0 (hall 0 (by decide))
    obtain rfl := hI.p1 (hall 1 (by decide))
    obtain rfl := hI.p3 (hall 3 (by decide))
    have hXe := hI.x
    rw [hall 4 (by decide)] at hXe
    clear hI hall
    try dsimp only
    have hr := hXe.r10
    rw [if_pos rfl] at hr
    have HE : Hid (Row W w.heap.size 65 zPt /\ Below w.heap.size w W) := ⟨hXe.r8, hXe.bel⟩
    clear hXe
    go_wp2
    refine bodyPost_ret_by (results_rtr Tryd.results24 _ W w.heap.size 65 (w.heap.size + 1) 37 _ _ _ _ rfl HE.out.1 Tryd.underlying65 rfl (by kernel_rfl) rfl hr Tryd.underlying37 rfl (by kernel_rfl)) rfl ?_
    exact PaP.err hres HE.out.2

set_option maxHeartbeats 4000000 in
set_option maxRecDepth 100000 in
theorem lay_short (w : World) (gx : Nat) (old new : List By) (bef aft : Nat) (lo : Option Addr) (lc B0 : Nat) (l : List Pt) (HX : PaX w gx old new bef aft lo lc B0 l) (B off n pc : Nat) (p : List By) (hpn : p.length = n) (hp47 : n <= 140737488351232) (hpc : n <= pc) (hp : IsB w (some ⟨B, off, none⟩) p) (a hv : Nat) (ha : a <= 140737488355328) (hhv : hv <= 524288) (ha2 : a < n) (hcb : (p.getD a 0).toNat = 2) (hnn : n < a + 5) (hres : partR bef aft l p a hv = .error (6, n)) :
    Calls Tryd.prog 24 #[.pointer (some ⟨gx, 0, none⟩), .slice (some ⟨B, off, none⟩) n pc, .int .i64 (a : Int), .int .i64 (hv : Int)] w (PaP w bef aft l p a hv) := by
  obtain ⟨w1, hw1⟩ : ∃ w1, w1 = ((w.alloc (.cells zPt.toArray 65)).alloc (.cells #[.int .i64 0, .int .i64 0] 37)).alloc (.cells #[.int .i64 0, .int .i64 0] 37) := ⟨_, rfl⟩
  have q1 : Hid (P1 w w1) := by rw [hw1]; exact P1.new w
  have HN : Hid (p.length = n) := hpn
  have haft := HX.aft
  have hbef := HX.bef
  have HXX : Hid (PaX w gx old new bef aft lo lc B0 l) := HX
  clear HX hpn
  go_enter Tryd.func24, Tryd.ntmps24
  go_upto_region 3 with (first
    | (have hz := q1; clear hz; rw [<- hw1]; refine wpList_store_Row rfl 37 (.tmp 11) (.tmp 17) rfl (w.heap.size + 2) 37 0 [.int .i64 0, .int .i64 0] [.int .i64 6, .int .i64 (n : Int)] q1.out.r11 (Nat.le_refl _) rfl rfl (by kernel_rfl) (wr2_one _ _) ?_; intro w3 hr3 hs3; have q3 : Hid (P3 w n w3) := P3.new q1.out (row_whole hr3 (Nat.le_refl _)) hs3; clear hr3 hs3 q1 hw1)
    | (have hz := q3; clear hz; refine wpList_store_Row rfl 37 (.tmp 12) (.tmp 19) rfl w3.heap.size 37 0 [.int .i64 0, .int .i64 0] [.int .i64 5, .int .i64 (a : Int)] (Row.at w3 _ _ _ _ rfl rfl) (Nat.le_refl _) rfl rfl (by kernel_rfl) (wr2_one _ _) ?_; intro w4 hr4 hs4; have P4 : Hid (PA w n a w3.heap.size w4) := PA.new q3.out (row_whole hr4 (Nat.le_refl _)) hs4; clear hr4 hs4 q3))
  generalize w3.heap.size = g12 at *
  obtain ⟨nx, hnx⟩ : ∃ nx, nx = a + 5 := ⟨_, rfl⟩
  have z5 : IntKind.i64.wrap ((a : Int) + 5) = (nx : Int) := by rw [i64_in _ (by omega) (by omega)]; omega
  have HNX : Hid (nx = a + 5) := hnx
  have hxl : nx <= 140737488355337 := by omega
  clear hnx
  have y1 : ¬ (n : Int) <= (a : Int) := by omega
  have y0 : (0 : Int) <= (a : Int) := by omega
  have y2 : (a : Int) < (n : Int) := by omega
  have HI : Hid (∀ W, Below w.heap.size w W -> IsB W (some ⟨B, off, none⟩) p) := fun W h => hp.below h (Nat.le_refl _)
  have HCA : Hid (∀ W, Below w.heap.size w W -> W.cell? ⟨B, off + a, none⟩ = some (.int .u8 (2 : Int))) := fun W h => byte_at25 hp HN.out hcb ha2 h
  clear hp hcb
  have c4 := HCA.out _ P4.out.bel
  go_upto_region 6 with (first
    | (have hz := P4; clear hz; refine wpList_store_Row rfl 65 (.tmp 13) (.tmp 31) rfl w4.heap.size 65 0 zPt (ptC true 0 0 (.slice none 0 0)) (Row.at w4 _ _ _ _ rfl rfl) (Nat.le_refl _) rfl rfl (by kernel_rfl) (ptC_one _ _ _ _ _ _) ?_; intro w5 hr5 hs5; have P5 : Hid (PY w n a g12 w4.heap.size (ptC true 0 0 (.slice none 0 0)) w5) := PY.new P4.out (row_whole hr5 (Nat.le_refl _)) hs5; clear hr5 hs5 P4 c4))
  generalize w4.heap.size = G at *
  have c5 := HCA.out _ P5.out.pa.bel
  have c0 := P5.out.ry.cell 0 _ rfl
  have y3 : (n : Int) < (nx : Int) := by have := HNX.out; omega
  have P6 : Hid (PA w n a g12 w5) := P5.out.pa
  clear P5
  go_wp2
  obtain ⟨GE, hGE⟩ : ∃ GE : Nat, GE = (w.heap.size + 2) := ⟨_, rfl⟩
  have HGE : Hid (w.heap.size + 2 <= GE) := by show _ <= _; have := P6.out.gt; omega
  have M3 : Hid (PE w [.int .i64 6, .int .i64 (n : Int)] GE false w5.drew) := ⟨P6.out.r8, P6.out.r10, by rw [hGE]; exact P6.out.r11, P6.out.bel.drew⟩
  rw [<- hGE]
  clear P6 hGE
  refine wp_region_inv (IPT12 w [.int .i64 6, .int .i64 (n : Int)] GE _ _ _ _ _ _ _ _ _ _ _ _ _ _ _ _ _ _ _ _ _ _ _ _ _ _ _ _ _ _ _ _ _ _ _ _ _ _ _ _ _ _ _ _ _ _ _ _ _ _ _ _ _ _ _ _ _ _ _ _ _ _ _ _ _ _ _ _ _ _ _ _ _ _ _ _ _ _ _ _ _ _ _ _ _ _ _ _ _ _ _ _ _ _ _ _ _ _ _ _ _ _ _ _ _ _ _ _ _ _ _ _ _ _ _ _ _ _ _ _ _ _ _ _ _ _ _ _ _ _ _ _ _ _ _ _ _ _) (by kernel_rfl) (by kernel_rfl) ⟨_, _, _, rfl, ⟨M3.out, fun k => (by cases k), fun k => (by cases k), fun k => (by cases k)⟩⟩ ?_ ?_
  · refine .cons ?_ (.cons ?_ (.cons ?_ (.cons ?_ (.cons ?_ .nil))))
    all_goals (rintro L _ W ⟨x56, x57, x9, rfl, hI⟩ hL hd K hK)
    · rw [if_pos (by rfl)]
      go_simp
      exact hK.out _ _ ⟨_, _, _, rfl, { hI with p0 := fun _ => rfl }⟩
    · refine step_load_rng25 (by rfl) 37 _ rfl GE 0 [.int .i64 6, .int .i64 (n : Int)] (by have h5 := hI.x.rE.range 0 2; rw [List.drop_zero, List.take_of_length_le (by exact Nat.le_refl 2)] at h5; exact h5) rfl _ Tryd.underlying37 rfl (by kernel_rfl) ?_
      exact hK.out _ _ ⟨_, _, _, rfl, { hI with p1 := fun _ => rfl }⟩
    · obtain rfl := hI.p0 (hd 0 (by decide))
      refine step_store_Row rfl 65 _ _ rfl w.heap.size 65 zPt zPt hI.x.r8 rfl rfl rfl (by kernel_rfl) zPt_one ?_
      intro W2 hr2 hs2
      have hX := hI.x.s2 HGE.out hr2 hs2
      exact hK.out _ _ ⟨_, _, _, rfl, { hI with x := hX }⟩
    · rw [if_pos (by rfl)]
      go_simp
      exact hK.out _ _ ⟨_, _, _, rfl, { hI with p3 := fun _ => rfl }⟩
    · obtain rfl := hI.p1 (hd 1 (by decide))
      refine step_store_Row rfl 37 _ _ rfl (w.heap.size + 1) 37 [.int .i64 0, .int .i64 0] [.int .i64 6, .int .i64 (n : Int)] (hI.x.no hL) rfl rfl rfl (by kernel_rfl) (wr2_one _ _) ?_
      intro W2 hr2 hs2
      have hX := hI.x.s4 HGE.out hr2 hs2
      exact hK.out _ _ ⟨_, _, _, rfl, { hI with x := hX }⟩
  · rintro L _ W hall ⟨x56, x57, x9, rfl, hI⟩
    obtain rfl := hI.p0 (hall 0 (by decide))
    obtain rfl := hI.p1 (hall 1 (by decide))
    obtain rfl := hI.p3 (hall 3 (by decide))
    have hXe := hI.x
    rw [hall 4 (by decide)] at hXe
    clear hI hall
    try dsimp only
    have hr := hXe.r10
    rw [if_pos rfl] at hr
    have HE : Hid (Row W w.heap.size 65 zPt /\ Below w.heap.size w W) := ⟨hXe.r8, hXe.bel⟩
    clear hXe
    go_wp2
    refine bodyPost_ret_by (results_rtr Tryd.results24 _ W w.heap.size 65 (w.heap.size + 1) 37 _ _ _ _ rfl HE.out.1 Tryd.underlying65 rfl (by kernel_rfl) rfl hr Tryd.underlying37 rfl (by kernel_rfl)) rfl ?_
    exact PaP.err hres HE.out.2

set_option maxHeartbeats 4000000 in
set_option maxRecDepth 100000 in
theorem copy_short (w : World) (gx : Nat) (old new : List By) (bef aft : Nat) (lo : Option Addr) (lc B0 : Nat) (l : List Pt) (HX : PaX w gx old new bef aft lo lc B0 l) (B off n pc : Nat) (p : List By) (hpn : p.length = n) (hp47 : n <= 140737488351232) (hpc : n <= pc) (hp : IsB w (some ⟨B, off, none⟩) p) (a hv : Nat) (ha : a <= 140737488355328) (hhv : hv <= 524288) (ha2 : a < n) (hcb : (p.getD a 0).toNat = 1) (hnn : n < a + 9) (hres : partR bef aft l p a hv = .error (6, n)) :
    Calls Tryd.prog 24 #[.pointer (some ⟨gx, 0, none⟩), .slice (some ⟨B, off, none⟩) n pc, .int .i64 (a : Int), .int .i64 (hv : Int)] w (PaP w bef aft l p a hv) := by
  obtain ⟨w1, hw1⟩ : ∃ w1, w1 = ((w.alloc (.cells zPt.toArray 65)).alloc (.cells #[.int .i64 0, .int .i64 0] 37)).alloc (.cells #[.int .i64 0, .int .i64 0] 37) := ⟨_, rfl⟩
  have q1 : Hid (P1 w w1) := by rw [hw1]; exact P1.new w
  have HN : Hid (p.length = n) := hpn
  have haft := HX.aft
  have hbef := HX.bef
  have HXX : Hid (PaX w gx old new bef aft lo lc B0 l) := HX
  clear HX hpn
  go_enter Tryd.func24, Tryd.ntmps24
  go_upto_region 3 with (first
    | (have hz := q1; clear hz; rw [<- hw1]; refine wpList_store_Row rfl 37 (.tmp 11) (.tmp 17) rfl (w.heap.size + 2) 37 0 [.int .i64 0, .int .i64 0] [.int .i64 6, .int .i64 (n : Int)] q1.out.r11 (Nat.le_refl _) rfl rfl (by kernel_rfl) (wr2_one _ _) ?_; intro w3 hr3 hs3; have q3 : Hid (P3 w n w3) := P3.new q1.out (row_whole hr3 (Nat.le_refl _)) hs3; clear hr3 hs3 q1 hw1)
    | (have hz := q3; clear hz; refine wpList_store_Row rfl 37 (.tmp 12) (.tmp 19) rfl w3.heap.size 37 0 [.int .i64 0, .int .i64 0] [.int .i64 5, .int .i64 (a : Int)] (Row.at w3 _ _ _ _ rfl rfl) (Nat.le_refl _) rfl rfl (by kernel_rfl) (wr2_one _ _) ?_; intro w4 hr4 hs4; have P4 : Hid (PA w n a w3.heap.size w4) := PA.new q3.out (row_whole hr4 (Nat.le_refl _)) hs4; clear hr4 hs4 q3))
  generalize w3.heap.size = g12 at *
  obtain ⟨nx, hnx⟩ : ∃ nx, nx = a + 9 := ⟨_, rfl⟩
  have z5 : IntKind.i64.wrap ((a : Int) + 9) = (nx : Int) := by rw [i64_in _ (by omega) (by omega)]; omega
  have HNX : Hid (nx = a + 9) := hnx
  have hxl : nx <= 140737488355337 := by omega
  clear hnx
  have y1 : ¬ (n : Int) <= (a : Int) := by omega
  have y0 : (0 : Int) <= (a : Int) := by omega
  have y2 : (a : Int) < (n : Int) := by omega
  have HI : Hid (∀ W, Below w.heap.size w W -> IsB W (some ⟨B, off, none⟩) p) := fun W h => hp.below h (Nat.le_refl _)
  have HCA : Hid (∀ W, Below w.heap.size w W -> W.cell? ⟨B, off + a, none⟩ = some (.int .u8 (1 : Int))) := fun W h => byte_at25 hp HN.out hcb ha2 h
  clear hp hcb
  have c4 := HCA.out _ P4.out.bel
  go_upto_region 6 with (first
    | (have hz := P4; clear hz; refine wpList_store_Row rfl 65 (.tmp 13) (.tmp 31) rfl w4.heap.size 65 0 zPt (ptC false 0 0 (.slice none 0 0)) (Row.at w4 _ _ _ _ rfl rfl) (Nat.le_refl _) rfl rfl (by kernel_rfl) (ptC_one _ _ _ _ _ _) ?_; intro w5 hr5 hs5; have P5 : Hid (PY w n a g12 w4.heap.size (ptC false 0 0 (.slice none 0 0)) w5) := PY.new P4.out (row_whole hr5 (Nat.le_refl _)) hs5; clear hr5 hs5 P4 c4))
  generalize w4.heap.size = G at *
  have c5 := HCA.out _ P5.out.pa.bel
  have c0 := P5.out.ry.cell 0 _ rfl
  have y3 : (n : Int) < (nx : Int) := by have := HNX.out; omega
  have P6 : Hid (PA w n a g12 w5) := P5.out.pa
  clear P5
  go_wp2
  obtain ⟨GE, hGE⟩ : ∃ GE : Nat, GE = (w.heap.size + 2) := ⟨_, rfl⟩
  have HGE : Hid (w.heap.size + 2 <= GE) := by show _ <= _; have := P6.out.gt; omega
  have M3 : Hid (PE w [.int .i64 6, .int .i64 (n : Int)] GE false w5.drew) := ⟨P6.out.r8, P6.out.r10, by rw [hGE]; exact P6.out.r11, P6.out.bel.drew⟩
  rw [<- hGE]
  clear P6 hGE
  refine wp_region_inv (IPT12 w [.int .i64 6, .int .i64 (n : Int)] GE _ _ _ _ _ _ _ _ _ _ _ _ _ _ _ _ _ _ _ _ _ _ _ _ _ _ _ _ _ _ _ _ _ _ _ _ _ _ _ _ _ _ _ _ _ _ _ _ _ _ _ _ _ _ _ _ _ _ _ _ _ _ _ _ _ _ _ _ _ _ _ _ _ _ _ _ _ _ _ _ _ _ _ _ _ _ _ _ _ _ _ _ _ _ _ _ _ _ _ _ _ _ _ _ _ _ _ _ _ _ _ _ _ _ _ _ _ _ _ _ _ _ _ _ _ _ _ _ _ _ _ _ _ _ _ _ _ _) (by kernel_rfl) (by kernel_rfl) ⟨_, _, _, rfl, ⟨M3.out, fun k => (by cases k), fun k => (by cases k), fun k => (by cases k)⟩⟩ ?_ ?_
  · refine .cons ?_ (.cons ?_ (.cons ?_ (.cons ?_ (.cons ?_ .nil))))
    all_goals (rintro L _ W ⟨x56, x57, x9, rfl, hI⟩ hL hd K hK)
    · rw [if_pos (by rfl)]
      go_simp
      exact hK.out _ _ ⟨_, _, _, rfl, { hI with p0 := fun _ => rfl }⟩
    · refine step_load_rng25 (by rfl) 37 _ rfl GE 0 [.int .i64 6, .int .i64 (n : Int)] (by have h5 := hI.x.rE.range 0 2; rw [List.drop_zero, List.take_of_length_le (by exact Nat.le_refl 2)] at h5; exact h5) rfl _ Tryd.underlying37 rfl (by kernel_rfl) ?_
      exact hK.out _ _ ⟨_, _, _, rfl, { hI with p1 := fun _ => rfl }⟩
    · obtain rfl := hI.p0 (hd 0 (by decide))
      refine step_store_Row rfl 65 _ _ rfl w.heap.size 65 zPt zPt hI.x.r8 rfl rfl rfl (by kernel_rfl) zPt_one ?_
      intro W2 hr2 hs2
      have hX := hI.x.s2 HGE.out hr2 hs2
      exact hK.out _ _ ⟨_, _, _, rfl, { hI with x := hX }⟩
    · rw [if_pos (by rfl)]
      go_simp
      exact hK.out _ _ ⟨_, _, _, rfl, { hI with p3 := fun _ => rfl }⟩
    · obtain rfl := hI.p1 (hd 1 (by decide))
      refine step_store_Row rfl 37 _ _ rfl (w.heap.size + 1) 37 [.int .i64 0, .int .i64 0] [.int .i64 6, .int .i64 (n : Int)] (hI.x.no hL) rfl rfl rfl (by kernel_rfl) (wr2_one _ _) ?_
      intro W2 hr2 hs2
      have hX := hI.x.s4 HGE.out hr2 hs2
      exact hK.out _ _ ⟨_, _, _, rfl, { hI with x := hX }⟩
  · rintro L _ W hall ⟨x56, x57, x9, rfl, hI⟩
    obtain rfl := hI.p0 (hall 0 (by decide))
    obtain rfl := hI.p1 (hall 1 (by decide))
    obtain rfl := hI.p3 (hall 3 (by decide))
    have hXe := hI.x
    rw [hall 4 (by decide)] at hXe
    clear hI hall
    try dsimp only
    have hr := hXe.r10
    rw [if_pos rfl] at hr
    have HE : Hid (Row W w.heap.size 65 zPt /\ Below w.heap.size w W) := ⟨hXe.r8, hXe.bel⟩
    clear hXe
    go_wp2
    refine bodyPost_ret_by (results_rtr Tryd.results24 _ W w.heap.size 65 (w.heap.size + 1) 37 _ _ _ _ rfl HE.out.1 Tryd.underlying65 rfl (by kernel_rfl) rfl hr Tryd.underlying37 rfl (by kernel_rfl)) rfl ?_
    exact PaP.err hres HE.out.2
end Go.Proofs.YtplpoehfdhkhmaaDoor
