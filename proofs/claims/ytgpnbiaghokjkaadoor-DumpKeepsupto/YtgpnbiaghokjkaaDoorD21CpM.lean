import Derived.Test.YtgpnbiaghokjkaaDoorD21Sp

/-! Layer 21: spoilt. -/
namespace Go.Proofs.YtgpnbiaghokjkaaDoor
open Go.RowKit
set_option linter.unusedVariables false
set_option linter.unusedSimpArgs false
set_option maxRecDepth 100000

theorem mcell_vals (k : Nat) (hk : k = 1 ∨ k = 2 ∨ k = 3) : ((mcell k).map B8) = [.int .u8 (k : Int), .int .u8 0, .int .u8 0, .int .u8 0, .int .u8 0, .int .u8 0, .int .u8 0, .int .u8 0, .int .u8 0, .int .u8 0, .int .u8 0, .int .u8 0, .int .u8 0, .int .u8 0, .int .u8 0, .int .u8 0, .int .u8 0, .int .u8 0, .int .u8 0, .int .u8 0, .int .u8 0, .int .u8 0, .int .u8 0, .int .u8 0, .int .u8 0, .int .u8 0, .int .u8 0, .int .u8 0, .int .u8 0, .int .u8 0, .int .u8 0, .int .u8 0] := by
  rcases hk with rfl | rfl | rfl <;> rfl
theorem marks_seg (n j : Nat) (k : Nat) (hj : j < n) : (((List.replicate n (mcell k)).flatten.map B8).drop (j * 32)).take 32 = (mcell k).map B8 := by
  have h := flat_seg (List.replicate n (mcell k)) (fun x hx => by rw [List.eq_of_mem_replicate hx]; exact mcell_len k) j (by simpa using hj)
  rw [← List.map_drop, ← List.map_take, Nat.mul_comm, h, List.getD_eq_getElem?_getD, List.getElem?_replicate, if_pos hj]; rfl
set_option maxHeartbeats 16000000 in
theorem l21spoilt_any (v : SV) (t : St) (k : Nat) (hk : k = 1 ∨ k = 2 ∨ k = 3) (w : World) (h : StV w v (marked t k)) (hp : t.pages.length ≤ 1000000) (hg : ∀ g ∈ t.pages, g.length ≤ 1000000) (hel : t.erases.length ≤ 1000000) (hbl : t.blown.length ≤ 1000000) :
    Calls Tryd.prog 19 #[.agg (v.vals t).toArray, .int .i64 (k : Int)] w fun e w' => e = .returned (.bool true) ∧ Below w.heap.size w w' := by
  have hml : (marked t k).pages.length = t.pages.length := by simp [marked]
  have HPG : Hid (∀ W, Below w.heap.size w W → ∀ i, i < t.pages.length → ∃ B off qo qc, v.po = some ⟨B, off, none⟩ ∧ W.cell? ⟨B, off + i, none⟩ = some (.slice qo (t.pages.getD i []).length qc) ∧ IsL W qo ((List.replicate (t.pages.getD i []).length (mcell k)).flatten.map B8) ∧ (t.pages.getD i []).length ≤ 1000000) := fun W hW i hi => by
    have hv := h.below hW (Nat.le_refl _)
    obtain ⟨B, off, qo, qc, e1, e2, e3, _⟩ := hv.page i (by rw [hml]; exact hi)
    have hgd : (marked t k).pages.getD i [] = (t.pages.getD i []).map fun _ => mcell k := by
      simp only [marked, List.getD_eq_getElem?_getD, List.getElem?_map, List.getElem?_eq_getElem hi, Option.map_some, Option.getD_some]
    rw [hgd, List.length_map] at e2
    rw [hgd, map_const] at e3
    refine ⟨B, off, qo, qc, e1, e2, e3, hg _ ?_⟩
    rw [List.getD_eq_getElem?_getD, List.getElem?_eq_getElem hi]; exact List.getElem_mem hi
  have HER : Hid (∀ W, Below w.heap.size w W → ∀ i, i < t.erases.length → ∃ B off, v.eo = some ⟨B, off, none⟩ ∧ W.cell? ⟨B, off + i, none⟩ = some (.int .i64 (-(k : Int)))) := fun W hW i hi => by
    refine (h.er.below hW (Nat.le_refl _)).cell i _ ?_
    simp only [marked, List.map_map, List.getElem?_map, List.getElem?_eq_getElem hi]; rfl
  have HBL : Hid (∀ W, Below w.heap.size w W → ∀ i, i < t.blown.length → ∃ B off, v.bo = some ⟨B, off, none⟩ ∧ W.cell? ⟨B, off + i, none⟩ = some (.bool (decide (k % 2 = 0)))) := fun W hW i hi => by
    refine (h.bl.below hW (Nat.le_refl _)).cell i _ ?_
    simp only [marked, List.map_map, List.getElem?_map, List.getElem?_eq_getElem hi]; rfl
  have HMC : Hid ((mcell k).map B8 = [.int .u8 (k : Int), .int .u8 0, .int .u8 0, .int .u8 0, .int .u8 0, .int .u8 0, .int .u8 0, .int .u8 0, .int .u8 0, .int .u8 0, .int .u8 0, .int .u8 0, .int .u8 0, .int .u8 0, .int .u8 0, .int .u8 0, .int .u8 0, .int .u8 0, .int .u8 0, .int .u8 0, .int .u8 0, .int .u8 0, .int .u8 0, .int .u8 0, .int .u8 0, .int .u8 0, .int .u8 0, .int .u8 0, .int .u8 0, .int .u8 0, .int .u8 0, .int .u8 0]) := mcell_vals k hk
  have one1 : ∀ u ∈ (mcell k).map B8, Value.oneCell' u = true := B8_one _
  have lmc : ((mcell k).map B8).length = 32 := by rw [List.length_map, mcell_len]
  have HSG : Hid (∀ n j : Nat, j < n → (((List.replicate n (mcell k)).flatten.map B8).drop (j * 32)).take 32 = (mcell k).map B8) := fun n j hj => marks_seg n j k hj
  have HLF : Hid (∀ n : Nat, ((List.replicate n (mcell k)).flatten.map B8).length = n * 32) := fun n => by
    show _ = _
    rw [List.length_map, flat_len32 _ (fun x hx => by rw [List.eq_of_mem_replicate hx]; exact mcell_len k), List.length_replicate]
  obtain ⟨b0, hb0⟩ : ∃ b0, decide (k % 2 = 0) = b0 := ⟨_, rfl⟩
  rw [hb0] at HBL
  have q1 : Int.tmod (k : Int) 2 = ((k % 2 : Nat) : Int) := rfl
  have q2 : (((k % 2 : Nat) : Int) == 0) = b0 := by rw [← hb0]; rcases hk with rfl | rfl | rfl <;> rfl
  have q3 : (k : Int) % 2 = ((k % 2 : Nat) : Int) := by omega
  have q4 : IntKind.i64.wrap ((k % 2 : Nat) : Int) = ((k % 2 : Nat) : Int) := i64_in _ (by omega) (by omega)
  have wneg : IntKind.i64.wrap (-(k : Int)) = -(k : Int) := i64_in _ (by omega) (by omega)
  have wk : IntKind.u8.wrap (k : Int) = (k : Int) := by rcases hk with rfl | rfl | rfl <;> rfl
  have wk2 : (k : Int) % 256 = (k : Int) := by omega
  clear hb0 h hg hml
  generalize k % 2 = K2 at *
  have HEX : Hid (v.vals t = [.slice v.po t.pages.length v.pc, .slice v.eo t.erases.length v.ec, .slice v.bo t.blown.length v.bc]) := rfl
  have r0 : Row (w.alloc (.cells (v.vals t).toArray 29)) w.heap.size 29 (v.vals t) := Row.at _ _ _ _ _ rfl rfl
  have HB0 : Hid (Below w.heap.size w (w.alloc (.cells (v.vals t).toArray 29))) := (Below.refl _ _).alloc (Nat.le_refl _) _
  obtain ⟨XS, hXS⟩ : ∃ XS, v.vals t = XS := ⟨_, rfl⟩
  rw [hXS] at r0 HB0 HEX ⊢
  clear hXS
  have HR0 : Hid (Row (w.alloc (.cells XS.toArray 29)) w.heap.size 29 XS) := r0
  rw [HEX.out] at r0
  have c0 := r0.cell 0 _ rfl
  rw [← HEX.out] at c0
  have hz0 : w.heap.size < (w.alloc (.cells XS.toArray 29)).heap.size := by simp
  clear r0
  go_enter Tryd.func19, Tryd.ntmps19
  generalize hW0 : w.alloc (.cells XS.toArray 29) = W0 at *
  have HW0 : Hid (w.alloc (.cells XS.toArray 29) = W0) := hW0
  go_upto_region 1 with fail
  try rw [hW0]
  clear hW0
  go_wp2_with fail
  go_loopw [16] (fun iv wr => ∃ i : Nat, i ≤ t.pages.length ∧ iv = .int .i64 i ∧ Hid (Below W0.heap.size W0 wr)) (fun iv _ => t.pages.length - (intOf iv).toNat)
  case atStart => exact ⟨0, by omega, rfl, Below.refl _ _⟩
  case round =>
    obtain ⟨i, hi, rfl, HB⟩ := hrel
    have HBw : Hid (Below w.heap.size w wr) := HB0.out.trans (HB.out.mono (by omega))
    by_cases hlt : i < t.pages.length
    · have y0 : (0 : Int) ≤ (i : Int) := by omega
      have y1 : (i : Int) < (t.pages.length : Int) := by omega
      obtain ⟨PB, po, qo, qc, hpo, cp, hil, hgl⟩ := HPG.out wr HBw.out i hlt
      have HPO : Hid (v.po = some ⟨PB, po, none⟩) := hpo
      have HIL : Hid (IsL wr qo ((List.replicate (t.pages.getD i []).length (mcell k)).flatten.map B8)) := hil
      rw [hpo]
      clear hpo hil
      obtain ⟨n, hn⟩ : ∃ n, (t.pages.getD i []).length = n := ⟨_, rfl⟩
      rw [hn] at cp HIL hgl
      clear hn
      obtain ⟨wa, hwa⟩ : ∃ wa, wa = wr := ⟨wr, rfl⟩
      subst hwa
      have HBa : Hid (Below wa.heap.size wa wa) := Below.refl _ _
      go_wp2_with fail
      go_loopw [22] (fun kv wr => ∃ j : Nat, j ≤ n ∧ kv = .int .i64 j ∧ Hid (Below wa.heap.size wa wr)) (fun kv _ => n - (intOf kv).toNat)
      case atStart => exact ⟨0, by omega, rfl, HBa⟩
      case round =>
        clear HBa cp
        obtain ⟨j, hj, rfl, HBj⟩ := hrel
        by_cases hjn : j < n
        · have z0 : (0 : Int) ≤ (j : Int) := by omega
          have z1 : (j : Int) < (n : Int) := by omega
          obtain ⟨QB, qoff, hqo, hrng⟩ := (HIL.out.below HBj.out (Nat.le_refl _)).range (j * 32) 32 (by omega) (by rw [HLF.out]; omega)
          subst hqo
          rw [HSG.out n j hjn] at hrng
          have r5 : Row (wr.alloc (.cells ((List.replicate 32 (0 : By)).map B8).toArray 56)) wr.heap.size 56 ((List.replicate 32 (0 : By)).map B8) := Row.at wr _ _ _ _ rfl rfl
          obtain ⟨MB, hMB⟩ : ∃ MB, (mcell k).map B8 = MB := ⟨_, rfl⟩
          have HRN : Hid (wr.rangeAt QB (qoff + j * 32) MB) := by rw [← hMB]; exact hrng
          have HMB : Hid ((mcell k).map B8 = MB) := hMB
          have lMB : MB.length = 32 := by rw [← hMB]; exact lmc
          have oMB : ∀ u ∈ MB, Value.oneCell' u = true := by rw [← hMB]; exact one1
          clear hrng hMB
          have wj : IntKind.i64.wrap ((j : Int) + 1) = (j : Int) + 1 := i64_in _ (by omega) (by omega)
          go_upto_region 7 with (first | (refine wpList_load_mid rfl 56 _ rfl QB (qoff + j * 32) rfl MB _ HRN.out Tryd.underlying56 rfl (by rw [lMB]; kernel_rfl) ?_) | (refine wpList_store_Row rfl 56 _ _ rfl wr.heap.size 56 0 _ MB r5 (by rw [lMB]; simp) rfl rfl (by rw [lMB]; kernel_rfl) oMB ?_; intro w6 hr6 hs6))
          have r6 := row_whole hr6 (by rw [lMB]; simp)
          have HB6 : Hid (Below wa.heap.size wa w6) := HBj.out.trans ((hs6.below ((Below.refl _ _).alloc (Nat.le_refl _) _) (Nat.le_refl _)).mono HBj.out.size)
          rw [← HMB.out, HMC.out] at r6
          have heq : ∀ W : World, (Op.equalIn 10000 56 (.agg #[.int .u8 (k : Int), .int .u8 0, .int .u8 0, .int .u8 0, .int .u8 0, .int .u8 0, .int .u8 0, .int .u8 0, .int .u8 0, .int .u8 0, .int .u8 0, .int .u8 0, .int .u8 0, .int .u8 0, .int .u8 0, .int .u8 0, .int .u8 0, .int .u8 0, .int .u8 0, .int .u8 0, .int .u8 0, .int .u8 0, .int .u8 0, .int .u8 0, .int .u8 0, .int .u8 0, .int .u8 0, .int .u8 0, .int .u8 0, .int .u8 0, .int .u8 0, .int .u8 0]) (.agg #[.int .u8 (k : Int), .int .u8 0, .int .u8 0, .int .u8 0, .int .u8 0, .int .u8 0, .int .u8 0, .int .u8 0, .int .u8 0, .int .u8 0, .int .u8 0, .int .u8 0, .int .u8 0, .int .u8 0, .int .u8 0, .int .u8 0, .int .u8 0, .int .u8 0, .int .u8 0, .int .u8 0, .int .u8 0, .int .u8 0, .int .u8 0, .int .u8 0, .int .u8 0, .int .u8 0, .int .u8 0, .int .u8 0, .int .u8 0, .int .u8 0, .int .u8 0, .int .u8 0])).run Tryd.prog W = .ok true W := fun W => by
            have := eq_cell (mcell k) (mcell k) (mcell_len k) (mcell_len k) W
            rw [HMC.out, decide_eq_true rfl] at this
            exact this
          clear hr6 hs6 r5 HRN
          go_wp2_with (refine wpList_load_Row rfl 56 _ rfl _ _ _ r6 rfl _ Tryd.underlying56 rfl (by kernel_rfl) ?_)
          exact ⟨⟨j + 1, by omega, by go_num, HB6⟩, by simp [intOf]; omega⟩
        · obtain rfl : j = n := by omega
          have z1 : ¬ (j : Int) < (j : Int) := by omega
          have HBn : Hid (Below W0.heap.size W0 wr) := HB.out.trans (HBj.out.mono HB.out.size)
          have wi : IntKind.i64.wrap ((i : Int) + 1) = (i : Int) + 1 := i64_in _ (by omega) (by omega)
          go_wp2
          exact ⟨⟨i + 1, by omega, by go_num, HBn⟩, by simp [intOf]; omega⟩
    · obtain rfl : i = t.pages.length := by omega
      have y1 : ¬ (t.pages.length : Int) < (t.pages.length : Int) := by omega
      have x1 : Row wr w.heap.size 29 XS := HR0.out.below HB.out hz0
      rw [HEX.out] at x1
      have c1 := x1.cell 1 _ rfl
      have c2 := x1.cell 2 _ rfl
      clear x1
      go_wp2_with fail
      go_loopw [36] (fun iv wr' => ∃ i : Nat, i ≤ t.erases.length ∧ iv = .int .i64 i ∧ wr' = wr) (fun iv _ => t.erases.length - (intOf iv).toNat)
      case atStart => exact ⟨0, by omega, rfl, rfl⟩
      case round =>
        obtain ⟨i, hi, rfl, rfl⟩ := hrel
        by_cases hlt : i < t.erases.length
        · have z0 : (0 : Int) ≤ (i : Int) := by omega
          have z1 : (i : Int) < (t.erases.length : Int) := by omega
          obtain ⟨B, off, heo, cc⟩ := HER.out _ HBw.out i hlt
          have wi : IntKind.i64.wrap ((i : Int) + 1) = (i : Int) + 1 := i64_in _ (by omega) (by omega)
          rw [heo]
          clear heo
          go_wp2
          exact ⟨⟨i + 1, by omega, by go_num, by first | trivial | rfl⟩, by simp [intOf]; omega⟩
        · obtain rfl : i = t.erases.length := by omega
          have z1 : ¬ (t.erases.length : Int) < (t.erases.length : Int) := by omega
          go_wp2_with fail
          go_loopw [48] (fun iv wr' => ∃ i : Nat, i ≤ t.blown.length ∧ iv = .int .i64 i ∧ wr' = wr) (fun iv _ => t.blown.length - (intOf iv).toNat)
          case atStart => exact ⟨0, by omega, rfl, rfl⟩
          case round =>
            obtain ⟨i, hi, rfl, rfl⟩ := hrel
            by_cases hlt : i < t.blown.length
            · have z0 : (0 : Int) ≤ (i : Int) := by omega
              have z1 : (i : Int) < (t.blown.length : Int) := by omega
              obtain ⟨B, off, heo, cc⟩ := HBL.out _ HBw.out i hlt
              have wi : IntKind.i64.wrap ((i : Int) + 1) = (i : Int) + 1 := i64_in _ (by omega) (by omega)
              rw [heo]
              clear heo
              go_wp2
              exact ⟨⟨i + 1, by omega, by go_num, by first | trivial | rfl⟩, by simp [intOf]; omega⟩
            · obtain rfl : i = t.blown.length := by omega
              have z1 : ¬ (t.blown.length : Int) < (t.blown.length : Int) := by omega
              go_wp2
              go_ret
              exact ⟨rfl, HBw.out⟩
end Go.Proofs.YtgpnbiaghokjkaaDoor


/-! Layer 21: few. -/
namespace Go.Proofs.YtgpnbiaghokjkaaDoor
open Go.RowKit
set_option linter.unusedVariables false
set_option linter.unusedSimpArgs false
set_option maxRecDepth 100000

def Small (t : St) : Prop := t.erases.length ≤ 131072 ∧ t.blown.length ≤ 131072 ∧ t.pages.length ≤ 131072 ∧ ∀ g ∈ t.pages, g.length ≤ 131072
def FewP (t : St) (w : World) (e : Ending) (w' : World) : Prop := ∃ r : Bool, e = .returned (.bool r) ∧ (r = true → Small t) ∧ Below w.heap.size w w'
set_option maxHeartbeats 8000000 in
theorem l21few_any (v : SV) (t : St) (w : World) (h : StV w v t) (hl : Lens t) :
    Calls Tryd.prog 16 #[.agg (v.vals t).toArray] w (FewP t w) := by
  obtain ⟨l1, l2, l3, l4⟩ := hl
  have HPG : Hid (∀ W, Below w.heap.size w W → ∀ i, i < t.pages.length → ∃ B off qo qc, v.po = some ⟨B, off, none⟩ ∧ W.cell? ⟨B, off + i, none⟩ = some (.slice qo (t.pages.getD i []).length qc) ∧ (t.pages.getD i []).length ≤ 140737488355328) := fun W hW i hi => by
    obtain ⟨B, off, qo, qc, e1, e2, _⟩ := (h.below hW (Nat.le_refl _)).page i hi
    refine ⟨B, off, qo, qc, e1, e2, l4 _ ?_⟩
    rw [List.getD_eq_getElem?_getD, List.getElem?_eq_getElem hi]; exact List.getElem_mem hi
  have r0 : Row (w.alloc (.cells #[.slice v.po t.pages.length v.pc, .slice v.eo t.erases.length v.ec, .slice v.bo t.blown.length v.bc] 29)) w.heap.size 29 [.slice v.po t.pages.length v.pc, .slice v.eo t.erases.length v.ec, .slice v.bo t.blown.length v.bc] := Row.at _ _ _ _ _ rfl rfl
  have c0 := r0.cell 0 _ rfl
  have c1 := r0.cell 1 _ rfl
  have c2 := r0.cell 2 _ rfl
  have HB0 : Hid (Below w.heap.size w (w.alloc (.cells #[.slice v.po t.pages.length v.pc, .slice v.eo t.erases.length v.ec, .slice v.bo t.blown.length v.bc] 29))) := (Below.refl _ _).alloc (Nat.le_refl _) _
  have HPF : Hid ((∀ j, j < t.pages.length → (t.pages.getD j []).length ≤ 131072) → ∀ g ∈ t.pages, g.length ≤ 131072) := fun hh g hg => by
    obtain ⟨i, hi, rfl⟩ := List.getElem_of_mem hg
    have := hh i hi
    rw [List.getD_eq_getElem?_getD, List.getElem?_eq_getElem hi] at this
    exact this
  clear h r0 l4
  show Calls Tryd.prog 16 #[.agg #[.slice v.po t.pages.length v.pc, .slice v.eo t.erases.length v.ec, .slice v.bo t.blown.length v.bc]] w _
  obtain ⟨W0, hW0⟩ : ∃ W0, w.alloc (.cells #[.slice v.po t.pages.length v.pc, .slice v.eo t.erases.length v.ec, .slice v.bo t.blown.length v.bc] 29) = W0 := ⟨_, rfl⟩
  rw [hW0] at HB0 c0 c1 c2
  have wr1 : IntKind.i64.wrap ((131072 : Int) - (t.erases.length : Int)) = (131072 : Int) - (t.erases.length : Int) := i64_in _ (by omega) (by omega)
  have wr2 : IntKind.i64.wrap ((131072 : Int) - (t.erases.length : Int) - (t.blown.length : Int)) = (131072 : Int) - (t.erases.length : Int) - (t.blown.length : Int) := i64_in _ (by omega) (by omega)
  go_enter Tryd.func16, Tryd.ntmps16
  go_upto_region 1 with fail
  try rw [hW0]
  clear hW0
  go_wp2_with fail
  go_loopw [3, 4] (fun lv iv wr => ∃ (i : Nat) (L : Int), i ≤ t.pages.length ∧ iv = .int .i64 i ∧ lv = .int .i64 L ∧ wr = W0 ∧ L ≤ 131072 - (t.erases.length : Int) - (t.blown.length : Int) - (i : Int) ∧ -562949953421312 ≤ L ∧ Hid (∀ j, j < i → (((t.pages.getD j []).length : Nat) : Int) + L ≤ 131072)) (fun _ iv _ => t.pages.length - (intOf iv).toNat)
  case atStart => exact ⟨0, _, by omega, rfl, rfl, rfl, by omega, by omega, fun j hj => by omega⟩
  case round =>
    obtain ⟨i, L, hi, rfl, rfl, rfl, hL1, hL2, HLJ⟩ := hrel
    by_cases hlt : i < t.pages.length
    · have y0 : (0 : Int) ≤ (i : Int) := by omega
      have y1 : (i : Int) < (t.pages.length : Int) := by omega
      by_cases hL0 : 0 ≤ L
      · obtain ⟨B, off, qo, qc, hpo, cp, hgl⟩ := HPG.out _ HB0.out i hlt
        have HPO : Hid (v.po = some ⟨B, off, none⟩) := hpo
        rw [hpo] at c0
        rw [hpo]
        clear hpo
        have HL2 : Hid (∀ j, j < i + 1 → (((t.pages.getD j []).length : Nat) : Int) + (L - 1 - (((t.pages.getD i []).length : Nat) : Int)) ≤ 131072) := fun j hj => by
          rcases Nat.lt_succ_iff_lt_or_eq.1 hj with h | h
          · have := HLJ.out j h; omega
          · rw [h]; omega
        clear HLJ
        generalize (t.pages.getD i []).length = n at *
        have w1 : IntKind.i64.wrap (L - 1) = L - 1 := i64_in _ (by omega) (by omega)
        have w2 : IntKind.i64.wrap (L - 1 - (n : Int)) = L - 1 - (n : Int) := i64_in _ (by omega) (by omega)
        have wi : IntKind.i64.wrap ((i : Int) + 1) = (i : Int) + 1 := i64_in _ (by omega) (by omega)
        go_wp2
        exact ⟨⟨i + 1, _, by omega, by go_num, rfl, by first | trivial | rfl, by omega, by omega, HL2⟩, by simp [intOf]; omega⟩
      · have d0 : decide (0 ≤ L) = false := decide_eq_false hL0
        go_wp2
        go_ret
        exact ⟨false, by first | rfl | simp [hL0], fun e => (by cases e), HB0.out⟩
    · obtain rfl : i = t.pages.length := by omega
      have y1 : ¬ (t.pages.length : Int) < (t.pages.length : Int) := by omega
      by_cases hL0 : 0 ≤ L
      · have d0 : decide (0 ≤ L) = true := decide_eq_true hL0
        have HSM : Hid (Small t) := ⟨by omega, by omega, by omega, HPF.out (fun j hj => by have := HLJ.out j hj; omega)⟩
        clear HLJ
        go_wp2
        go_ret
        exact ⟨true, by first | rfl | simp [hL0], fun _ => HSM.out, HB0.out⟩
      · have d0 : decide (0 ≤ L) = false := decide_eq_false hL0
        go_wp2
        go_ret
        exact ⟨false, by first | rfl | simp [hL0], fun e => (by cases e), HB0.out⟩
end Go.Proofs.YtgpnbiaghokjkaaDoor


/-! Layer 21, the document's answer: what has come up of a page's copy. -/
namespace Go.Proofs.YtgpnbiaghokjkaaDoor
open Go.RowKit
set_option linter.unusedVariables false
set_option linter.unusedSimpArgs false
set_option maxRecDepth 100000

structure CR (N D g1 i n : Nat) (flat qs : List Value) (po : Option Addr) (W1 : World) (l25 l26 l27 l12 : Bool) (x25 x26 x27 : Value) (W : World) : Prop where
  bel : Below N W1 W
  oth : ∀ k, k < W1.heap.size → k ≠ D → (∀ g, po = some ⟨g, 0, none⟩ → k ≠ g) → W.heap[k]? = W1.heap[k]?
  a : l27 = false → Below W1.heap.size W1 W
  b : l12 = false → W.heap[D]? = W1.heap[D]?
  o2 : l12 = true → l27 = true
  o1 : l27 = true → l26 = true
  o0 : l26 = true → l25 = true
  r25 : l25 = true → ∃ gq cq, x25 = .slice (some ⟨gq, 0, none⟩) n cq ∧ (gq = g1 ∨ W1.heap.size ≤ gq) ∧ W.ownsRow N 56 32 (.slice (some ⟨gq, 0, none⟩) n cq) n flat
  r26 : l26 = true → l27 = false → ∃ M, x26 = .slice (some ⟨M, 0, none⟩) 1 1 ∧ W1.heap.size ≤ M ∧ Row W M 57 [x25]
  r27 : l27 = true → ∃ ao c', x27 = .slice ao (i + 1) c' ∧ W.ownsRow N 57 1 (.slice ao (i + 1) c') (i + 1) (qs ++ [x25])
  r12 : l12 = true → Row W D 29 [x27, nilS, nilS]
section
variable {N D g1 i n : Nat} {flat qs : List Value} {po : Option Addr} {W1 : World} {l25 l26 l27 l12 : Bool} {x25 x26 x27 : Value} {W W2 : World}
theorem no_t {a b : Bool} {p : Prop} (h : a = true → b = true) (hb : b = false) (k : a = true) : p := by have := h k; rw [hb] at this; cases this
theorem CR.zero (hN : N ≤ W1.heap.size) (x25 x26 x27 : Value) : CR N D g1 i n flat qs po W1 false false false false x25 x26 x27 W1.drew :=
  ⟨Below_dr (Below.refl _ _) ⟨1, rfl⟩, fun _ _ _ _ => rfl, fun _ => Below_dr (Below.refl _ _) ⟨1, rfl⟩, fun _ => rfl, fun e => (by cases e), fun e => (by cases e), fun e => (by cases e), fun e => (by cases e), fun e => (by cases e), fun e => (by cases e), fun e => (by cases e)⟩
theorem CR.s25 (h : CR N D g1 i n flat qs po W1 l25 l26 l27 l12 x25 x26 x27 W) (hl : l25 = false) (hN : N ≤ W1.heap.size) (hD : D < W1.heap.size) {gq cq : Nat} (ho : W2.ownsRow N 56 32 (.slice (some ⟨gq, 0, none⟩) n cq) n flat) (hb : Below W.heap.size W W2) (hg : gq = g1 ∨ gq = W.heap.size) : CR N D g1 i n flat qs po W1 true l26 l27 l12 (.slice (some ⟨gq, 0, none⟩) n cq) x26 x27 W2 := by
  have h26 : l26 = false := by cases e : l26 with | false => rfl | true => exact no_t h.o0 hl e
  have h27 : l27 = false := by cases e : l27 with | false => rfl | true => exact no_t h.o1 h26 e
  have h12 : l12 = false := by cases e : l12 with | false => rfl | true => exact no_t h.o2 h27 e
  have hs := (h.a h27).size
  refine ⟨h.bel.trans (hb.mono (by omega)), fun k hk h1 h2 => (hb.block k (by omega)).trans (h.oth k hk h1 h2), fun _ => (h.a h27).trans (hb.mono (by omega)), fun _ => (hb.block D (by omega)).trans (h.b h12), h.o2, h.o1, fun _ => rfl, fun _ => ⟨gq, cq, rfl, ?_, ho⟩, fun k => no_t h.o0 hl k, fun k => no_t h.o1 h26 k, fun k => no_t h.o2 h27 k⟩
  rcases hg with e | e
  · exact .inl e
  · exact .inr (by omega)
theorem CR.bel0 (h : CR N D g1 i n flat qs po W1 l25 l26 l27 l12 x25 x26 x27 W) (hl : l25 = false) : Below W1.heap.size W1 W := by
  have h26 : l26 = false := by cases e : l26 with | false => rfl | true => exact no_t h.o0 hl e
  have h27 : l27 = false := by cases e : l27 with | false => rfl | true => exact no_t h.o1 h26 e
  exact h.a h27
theorem CR.s26 (h : CR N D g1 i n flat qs po W1 l25 l26 l27 l12 x25 x26 x27 W) (hl : l26 = false) (h25 : l25 = true) (hN : N ≤ W1.heap.size) (hD : D < W1.heap.size) : CR N D g1 i n flat qs po W1 l25 true l27 l12 x25 (.slice (some ⟨W.heap.size, 0, none⟩) 1 1) x27 (W.alloc (.cells #[x25] 57)) := by
  have h27 : l27 = false := by cases e : l27 with | false => rfl | true => exact no_t h.o1 hl e
  have h12 : l12 = false := by cases e : l12 with | false => rfl | true => exact no_t h.o2 h27 e
  have hs := (h.a h27).size
  have hb : Below W.heap.size W (W.alloc (.cells #[x25] 57)) := (Below.refl _ _).alloc (Nat.le_refl _) _
  refine ⟨h.bel.trans (hb.mono (by omega)), fun k hk h1 h2 => (hb.block k (by omega)).trans (h.oth k hk h1 h2), fun _ => (h.a h27).trans (hb.mono (by omega)), fun _ => (hb.block D (by omega)).trans (h.b h12), h.o2, fun k => rfl, fun _ => h25, fun k => ?_, fun _ _ => ⟨_, rfl, by omega, Row.at _ _ _ _ _ rfl rfl⟩, fun k => no_t h.o1 hl k, fun k => no_t h.o2 h27 k⟩
  obtain ⟨gq, cq, e, hg, ho⟩ := h.r25 k
  exact ⟨gq, cq, e, hg, ho.alloc _⟩
theorem CR.s27 (h : CR N D g1 i n flat qs po W1 l25 l26 l27 l12 x25 x26 x27 W) (hl : l27 = false) (h26 : l26 = true) (hN : N ≤ W1.heap.size) (hD : D < W1.heap.size) (hDp : ∀ g, po = some ⟨g, 0, none⟩ → D ≠ g) (pc : Nat) (hpo : W1.ownsRow N 57 1 (.slice po i pc) i qs) {ao : Option Addr} {c' : Nat} (ho : W2.ownsRow N 57 1 (.slice ao (i + 1) c') (i + 1) (qs ++ [x25])) (hb : Below N W W2) (hsz : W.heap.size ≤ W2.heap.size)
    (hk : ∀ k, k < W.heap.size → (∀ g, po = some ⟨g, 0, none⟩ → k ≠ g) → W2.heap[k]? = W.heap[k]?) : CR N D g1 i n flat qs po W1 l25 l26 true l12 x25 x26 (.slice ao (i + 1) c') W2 := by
  have h12 : l12 = false := by cases e : l12 with | false => rfl | true => exact no_t h.o2 hl e
  have hs := (h.a hl).size
  refine ⟨h.bel.trans hb, fun k hk1 h1 h2 => (hk k (by omega) h2).trans (h.oth k hk1 h1 h2), fun e => (by cases e), fun _ => (hk D (by omega) hDp).trans (h.b h12), fun _ => rfl, fun _ => h26, h.o0, fun k => ?_, fun _ e => (by cases e), fun _ => ⟨ao, c', rfl, ho⟩, fun k => no_t h.o2 hl k⟩
  obtain ⟨gq, cq, e, hg, hoq⟩ := h.r25 k
  have hpo2 := owns_kept hpo (fun g hg => (h.a hl).block g (owns_at hpo g hg).2)
  exact ⟨gq, cq, e, hg, owns_kept hoq fun g hgx => hk g (owns_at hoq g hgx).2 (fun g' hg' e' => types_apart hoq hpo2 (by decide) g hgx (by rw [e']; exact hg'))⟩
theorem CR.s12 (h : CR N D g1 i n flat qs po W1 l25 l26 l27 l12 x25 x26 x27 W) (hl : l27 = true) (hDN : N ≤ D) (old : List Value) (hD : Row W1 D 29 old) (hr : Row W2 D 29 [x27, nilS, nilS]) (hs : SameBut D W W2) (hl12 : l12 = false) : CR N D g1 i n flat qs po W1 l25 l26 l27 true x25 x26 x27 W2 := by
  have hDW : Row W D 29 old := (h.b hl12).trans hD
  refine ⟨hs.below h.bel hDN, fun k hk h1 h2 => (hs.block k h1).trans (h.oth k hk h1 h2), fun e => (by rw [hl] at e; cases e), fun e => (by cases e), fun _ => hl, h.o1, h.o0, fun k => ?_, fun _ e => (by rw [hl] at e; cases e), fun k => ?_, fun _ => hr⟩
  · obtain ⟨gq, cq, e, hg, hoq⟩ := h.r25 k
    refine ⟨gq, cq, e, hg, owns_kept hoq fun g hgx => hs.block g (fun e' => ?_)⟩
    obtain ⟨c1, h1⟩ := owns_type hoq g hgx
    rw [e', hDW] at h1
    injection h1 with h1
    injection h1 with _ h1 _
    exact absurd h1 (by decide)
  · obtain ⟨ao, c', e, hoq⟩ := h.r27 k
    refine ⟨ao, c', e, owns_kept hoq fun g hgx => hs.block g (fun e' => ?_)⟩
    obtain ⟨c1, h1⟩ := owns_type hoq g hgx
    rw [e', hDW] at h1
    injection h1 with h1
    injection h1 with _ h1 _
    exact absurd h1 (by decide)
end
/-- A page's copy is laid behind the others. -/
theorem CR.push {N D g1 i n : Nat} {qs : List Value} {po : Option Addr} {pc : Nat} {W1 W : World} {x25 x26 x27 : Value} {pgs : List (List (List By))} {g : List (List By)} (h : CR N D g1 i n (g.flatten.map B8) qs po W1 true true true true x25 x26 x27 W) (hp : PM N D nilS pgs [] po pc none 0 qs W1) (hi : pgs.length = i) (hn : g.length = n) (h32 : ∀ x ∈ g, x.length = 32) : ∃ po' pc', PM N D nilS (pgs ++ [g]) [] po' pc' none 0 (qs ++ [x25]) W := by
  obtain ⟨gq, cq, e25, hg, ho⟩ := h.r25 rfl
  obtain ⟨ao, c', e27, hr⟩ := h.r27 rfl
  have h12 := h.r12 rfl
  have hql : qs.length = pgs.length := by have := hp.pr.1; omega
  refine ⟨ao, c', ?_, ?_, ?_, World.ownsRow_nil _ _ _ _, Nat.le_trans hp.sz h.bel.size⟩
  · rw [List.length_append, hi]
    rw [e27] at h12
    exact h12
  · rw [List.length_append, hi]
    exact hr
  · intro j x y hx hy
    by_cases hj : j < pgs.length
    · rw [List.getElem?_append_left (by omega)] at hx
      rw [List.getElem?_append_left hj] at hy
      have hxy := hp.pg j x y hx hy
      obtain ⟨ax, cx, ex⟩ := hxy.form
      have h1 := hxy.1
      rw [ex] at h1 ⊢
      refine ⟨owns_kept h1 fun b hbx => ?_, Nat.le_trans hp.sz h.bel.size, hxy.2.2⟩
      obtain ⟨cur, hcur⟩ := owns_type h1 b hbx
      refine h.oth b (owns_at h1 b hbx).2 (fun e => ?_) (fun g' hg' => types_apart h1 hp.pr (by decide) b hbx ∘ fun e => by rw [e]; exact hg')
      rw [e, hp.out] at hcur
      injection hcur with hcur
      injection hcur with _ hty _
      exact absurd hty (by decide)
    · rw [List.getElem?_append_right (by omega)] at hx hy
      rw [hql] at hx
      have hi0 : j - pgs.length = 0 := by
        have := (List.getElem?_eq_some_iff.1 hx).1
        simpa using this
      rw [hi0] at hx hy
      injection hx with hx
      injection hy with hy
      subst hx
      subst hy
      rw [e25]
      refine ⟨?_, Nat.le_trans hp.sz h.bel.size, h32⟩
      rw [hn]
      exact ho
/-- append onto a slice without elements that was just made, at a plain step. -/
theorem wpList_append_fresh {T e size bytes : Nat} {z : Value} (E : ElT T e size bytes z) {ops : Array Oper} {rest : List Oper} {o : Oper} {a : Act} {w : World} {Q : Exit → Act → World → Prop} (hgd : o.guard = none) (s x : Operand)
    (ho : o.op = .call { callee := .builtin .append, args := #[s, x], argTypes := #[T, T] })
    (N : Nat) (g1 : Nat) (hs : a.eval s = .slice (some ⟨g1, 0, none⟩) 0 0) (hg : w.heap[g1]? = some (.cells #[] e)) (hN1 : N ≤ g1)
    (ao : Option Addr) (n cap : Nat) (news : List Value) (hx : a.eval x = .slice ao n cap) (hn : news.length = n * size) (hb : IsL w ao news) (h1 : ∀ u ∈ news, u.oneCell' = true) (hnil : ao = none → cap = 0) (hm : n ≤ maxLen) (hl : n * bytes ≤ 140737488355328)
    (h : ∀ g' cap' w', w'.ownsRow N e size (.slice (some ⟨g', 0, none⟩) n cap') n news → Below w.heap.size w w' → (g' = g1 ∨ g' = w.heap.size) → wpList Tryd.prog ops Q rest (a.put o.dst (.slice (some ⟨g', 0, none⟩) n cap')) w') :
    wpList Tryd.prog ops Q (o :: rest) a w := by
  refine wpList_plain hgd fun K hK => ?_
  obtain ⟨g', cap', w', hrun, h2, h3, h4, h5, h6⟩ := run_append_fresh E N w o.type g1 hg hN1 ao n cap news hn hb h1 hnil hm hl
  unfold Oper.wp execOp
  simp only [ho, resolve, invoke, builtin, Sem.run_bind, Sem.run_pure, Result.andThen_ok, List.map_toArray, List.map_cons, List.map_nil, hs, hx, hrun]
  exact hK _ _ (h g' cap' w' h2 h3 h4)
/-- Pages stand where only the chip's own block, and new memory, was written. -/
theorem PM.redo {N D : Nat} {bv bv2 : Value} {pgs : List (List (List By))} {ers ers2 : List Int} {po eo eo2 : Option Addr} {pc ec ec2 : Nat} {qs : List Value} {W W' : World} (h : PM N D bv pgs ers po pc eo ec qs W) {L : List Nat} (kl : KeptL L W W') (hL : ∀ b ∈ L, ∃ cs, Row W b 29 cs) (hout : Row W' D 29 [.slice po pgs.length pc, .slice eo2 ers2.length ec2, bv2]) (her : W'.ownsRow N 3 1 (.slice eo2 ers2.length ec2) ers2.length (ers2.map (Value.int .i64))) : PM N D bv2 pgs ers2 po pc eo2 ec2 qs W' := by
  have hD : ∀ (b : Nat) (cur : Array Value) (e : Nat), e ≠ 29 → W.heap[b]? = some (.cells cur e (0, 0)) → b ∉ L := fun b cur e he hb hm => by
    obtain ⟨cs, hr⟩ := hL b hm
    rw [hr] at hb
    injection hb with hb
    injection hb with _ hb _
    exact he hb.symm
  refine ⟨hout, owns_kept h.pr fun b hb => ?_, fun i x g hx hg => ?_, her, Nat.le_trans h.sz kl.size⟩
  · obtain ⟨cur, hc⟩ := owns_type h.pr b hb
    exact kl.block b (owns_at h.pr b hb).2 (hD b cur _ (by decide) hc)
  · have ho := h.pg i x g hx hg
    obtain ⟨ax, cx, ex⟩ := ho.form
    have h1 := ho.1
    rw [ex] at h1 ⊢
    refine ⟨owns_kept h1 fun b hb => ?_, Nat.le_trans h.sz kl.size, ho.2.2⟩
    obtain ⟨cur, hc⟩ := owns_type h1 b hb
    exact kl.block b (owns_at h1 b hb).2 (hD b cur _ (by decide) hc)
end Go.Proofs.YtgpnbiaghokjkaaDoor
