
import Derived.Test.YtpcgkjngpdplmaaGreatDoorN19Z
import Derived.Test.YtpcgkjngpdplmaaGreatDoorN19X
import Derived.Test.YtpcgkjngpdplmaaGreatDoorN19M
/-! The code's model: stage. (Printed by tools/genn19.py.) -/
namespace Go.Proofs.YtpcgkjngpdplmaaGreatDoor
open Go.RowKit Go.Maps
set_option linter.unusedVariables false
set_option linter.unusedSimpArgs false

theorem lay19_any {N : Nat} {w : World} {mg rg nb so cap : Nat} {c : Cfg} {l : Secs} {B : List (List By)} (h : MdM N w mg rg nb so cap c l B) (hB : B.length ≤ 2932031007402) (bo : Option Addr) (bc : Nat) (b : List By) (hI0 : ∀ W, Below N w W → IsB W bo b) (hcap : b.length ≤ bc) (hbl : b.length ≤ 140737488351232) :
    Calls Tryz.prog 75 #[.pointer (some ⟨mg, 0, none⟩), .agg (fdC (findC c l b)).toArray, .slice bo b.length bc] w (LayP N mg rg nb so c l B b w) := by
  by_cases hq : (findC c l b).wrong = 0 ∧ (findC c l b).signed = true ∧ ¬ c.size19 < b.length ∧ B.findIdx? (· == b) = none
  · exact lay_new h hB bo bc b hI0 hcap (by omega) hq.1 hq.2.1 hq.2.2.1 hq.2.2.2
  · refine lay_old h bo bc b (hI0 w (Below.refl _ _)) (fun h0 h1 h2 => ?_)
    cases hf : B.findIdx? (· == b) with
    | none => exact absurd ⟨h0, h1, h2, hf⟩ hq
    | some j => rfl
/-- A deed is handed back, and the model as it is then. -/
def DeedM (N mg rg nb so0 : Nat) (c : Cfg) (l : Secs) (B2 : List (List By)) (D : CS → TL) (w : World) (e : Ending) (w' : World) : Prop := ∃ k fs bs so' cap', e = .returned (.func (.func k) fs bs) ∧ Ent k ∧ DeedIs c (B2.length + 1) w' k fs bs D ∧ MdM N w' mg rg nb so' cap' c l B2 ∧ LyB (fun i => i = nb ∨ i = so0 ∨ i = mg) w w'
theorem DeedR.m {N mg rg nb so cap : Nat} {c : Cfg} {l : Secs} {B : List (List By)} {D : CS → TL} {w : World} (h : MdM N w mg rg nb so cap c l B) {e : Ending} {w' : World} (hd : DeedR c (B.length + 1) D w e w') : DeedM N mg rg nb so c l B D w e w' := by
  obtain ⟨k, fs, bs, rfl, hk, hD, hb⟩ := hd
  exact ⟨k, fs, bs, so, cap, rfl, hk, hD, h.keep hb, (LyB.refl w).keep hb⟩
set_option maxHeartbeats 4000000 in
set_option maxRecDepth 100000 in
theorem stage_any {N : Nat} {w : World} {mg rg nb so cap : Nat} {c : Cfg} (h8 : c.slots ≤ 8) (h64 : c.keys ≤ 64) (hlast : c.last ≤ 4611686018427387904) {l : Secs} {B : List (List By)} (h : MdM N w mg rg nb so cap c l B) (hg : HG w) (hN0 : 0 < N) (hB : B.length ≤ 2932031007402) (bo : Option Addr) (bc : Nat) (b : List By) (hI0 : ∀ W, Below N w W → IsB W bo b) (hnil : bo = none → bc = 0) (hcap : b.length ≤ bc) (hbl : b.length ≤ 140737488351232) :
    Calls Tryz.prog 51 #[.pointer (some ⟨mg, 0, none⟩), .slice bo b.length bc] w (DeedM N mg rg nb so c l (layC c l B b).2 (stageC c l (layC c l B b).2 b (layC c l B b).1) w) := by
  obtain ⟨n1, n2, n3, n4, n5⟩ := h.ne
  have hmg := h.row.lt
  have hnb := h.num.lt
  have hso : so < w.heap.size := by obtain ⟨cs, hr, _⟩ := own_at h.own; exact hr.lt
  obtain ⟨w1, hw1⟩ : ∃ w1, w1 = (w.alloc (.cells #[.pointer (some ⟨mg, 0, none⟩)] 59)).alloc (.cells #[.slice bo b.length bc] 32) := ⟨_, rfl⟩
  have hb1 : Below w.heap.size w w1 := by rw [hw1]; exact ((Below.refl _ _).alloc (Nat.le_refl _) _).alloc (by simp) _
  have rp : Row w1 w.heap.size 59 [.pointer (some ⟨mg, 0, none⟩)] := by rw [hw1]; exact (Row.at w 59 _ _ _ rfl rfl).alloc _
  have rb : Row w1 (w.heap.size + 1) 32 [.slice bo b.length bc] := by rw [hw1]; exact Row.at _ _ _ _ _ (by simp) rfl
  have hz1 : w1.heap.size = w.heap.size + 2 := by rw [hw1]; simp
  have cp : w1.cell? ⟨w.heap.size, 0, none⟩ = some (.pointer (some ⟨mg, 0, none⟩)) := rp.cell 0 _ rfl
  have cb : w1.cell? ⟨w.heap.size + 1, 0, none⟩ = some (.slice bo b.length bc) := rb.cell 0 _ rfl
  have FI := moFind_any c l mg rg bo bc b w1 (hg.below hb1 hg.lt) (h.keep hb1).fd (hI0 w1 (hb1.mono n5)) hnil hcap hbl
  -- behind find and the store of what it found
  have AFT : Hid (∀ w2 w3, Below w1.heap.size w1 w2 → Row w3 w2.heap.size 89 (fdC (findC c l b)) → Below w2.heap.size w2 w3 → MdM N w3 mg rg nb so cap c l B ∧ Below w1.heap.size w1 w3 ∧ Calls Tryz.prog 75 #[.pointer (some ⟨mg, 0, none⟩), .agg (fdC (findC c l b)).toArray, .slice bo b.length bc] w3 (LayP N mg rg nb so c l B b w3)) := fun w2 w3 h2 hr h3 => by
    have h23 : Below w1.heap.size w1 w3 := h2.trans (h3.mono h2.size)
    have k3 : Below w.heap.size w w3 := hb1.trans (h23.mono hb1.size)
    exact ⟨h.keep k3, h23, lay19_any (h.keep k3) hB bo bc b (fun W hW => hI0 W ((k3.mono n5).trans hW)) hcap hbl⟩
  have LST : Hid (∀ w2 w3 w4 w5, Below w1.heap.size w1 w2 → Row w3 w2.heap.size 89 (fdC (findC c l b)) → Below w2.heap.size w2 w3 → w2.heap.size < w3.heap.size → (∃ so' cap', MdM N w4 mg rg nb so' cap' c l (layC c l B b).2) → LyB (fun i => i = nb ∨ i = so ∨ i = mg) w3 w4 → Row w5 w4.heap.size 3 [.int .i64 ((layC c l B b).1 : Int)] → Below w4.heap.size w4 w5 →
      DeedM N mg rg nb so c l (layC c l B b).2 (stageC c l (layC c l B b).2 b (layC c l B b).1) w (.returned (.func (.func 76) #[] #[.pointer (some ⟨w.heap.size, 0, none⟩), .pointer (some ⟨w2.heap.size, 0, none⟩), .pointer (some ⟨w.heap.size + 1, 0, none⟩), .pointer (some ⟨w4.heap.size, 0, none⟩)])) w5) := fun w2 w3 w4 w5 h2 hr h3 hz3 hM4 hly hr5 h5 => by
    have h23 : Below w1.heap.size w1 w3 := h2.trans (h3.mono h2.size)
    have s2 := h2.size
    have s3 := h3.size
    have s4 := hly.size
    obtain ⟨so', cap', M4⟩ := hM4
    have X : ∀ i, w.heap.size ≤ i → ¬ (i = nb ∨ i = so ∨ i = mg) := fun i hi e => by omega
    have p3 : Row w3 w.heap.size 59 [.pointer (some ⟨mg, 0, none⟩)] := rp.below h23 (by omega)
    have b3 : Row w3 (w.heap.size + 1) 32 [.slice bo b.length bc] := rb.below h23 (by omega)
    have p5 := (hly.row p3 (X _ (by omega))).below h5 (by omega)
    have b5 := (hly.row b3 (X _ (by omega))).below h5 (by omega)
    have f5 := (hly.row hr (X _ (by omega))).below h5 (by omega)
    have M5 := M4.keep h5
    have lk := laid_ok c l B b
    have lB := sta_len c l B ⟨8, 0, 0, b⟩
    have lB2 : (layC c l B b).2.length ≤ B.length + 1 := by have := lB.2; unfold staC at this; rw [if_pos rfl] at this; exact this
    refine ⟨_, _, _, so', cap', rfl, ent_stage, stage_deed h8 h64 (by omega) M5.sg lk.1 hlast p5 f5 b5 hr5, M5, ?_⟩
    exact (LyB.after (hb1.trans (h23.mono hb1.size)) hly).keep h5
  have LF : Hid ((fdC (findC c l b)).length = 5) := rfl
  clear hb1 rp rb h hg hI0 hnil hcap hbl hmg hnb hso n1 n2 n3 n4 n5
  generalize hPP : DeedM N mg rg nb so c l (layC c l B b).2 (stageC c l (layC c l B b).2 b (layC c l B b).1) w = PP at *
  clear hPP
  generalize findC c l b = F at *
  go_enter Tryz.func51, Tryz.ntmps51
  go_wp2_with (rw [← hw1]; have hz := hw1; clear hz hw1)
  refine FI.mono ?_
  rintro e w2 ⟨rfl, hb2⟩
  dsimp only
  obtain ⟨w3', hw3⟩ : ∃ w3', w3' = w2.alloc (.cells (fdC fd0).toArray 89) := ⟨_, rfl⟩
  have r3 : Row w3' w2.heap.size 89 (fdC fd0) := by rw [hw3]; exact Row.at _ _ _ _ _ rfl rfl
  have hb3 : Hid (Below w2.heap.size w2 w3' ∧ w2.heap.size < w3'.heap.size) := by rw [hw3]; exact ⟨(Below.refl _ _).alloc (Nat.le_refl _) _, by simp⟩
  have CP : Hid (∀ W, Below w1.heap.size w1 W → W.cell? ⟨w.heap.size, 0, none⟩ = some (.pointer (some ⟨mg, 0, none⟩)) ∧ W.cell? ⟨w.heap.size + 1, 0, none⟩ = some (.slice bo b.length bc)) := fun W hW => ⟨(hW.cell (cell_lt cp)).trans cp, (hW.cell (cell_lt cb)).trans cb⟩
  clear FI cp cb
  go_wp2_with (first
    | (refine wpList_store_Row rfl 89 (.tmp 5) (.tmp 9) rfl w2.heap.size 89 0 (fdC fd0) (fdC F) r3 (Nat.le_refl _) rfl rfl (by kernel_rfl) (fdC_one _) ?_; intro w3 hr3 hs3; have r4 := row_whole hr3 (Nat.le_refl _); have k3 := hs3.below hb3.out.1 (Nat.le_refl _); have z3 : w2.heap.size < w3.heap.size := (by have := hb3.out.2; have := hs3.size; omega); have A3 := AFT.out w2 w3 hb2 r4 k3; have c3 := (CP.out w3 A3.2.1).1; have c4 := (CP.out w3 A3.2.1).2; have HK : Hid (Row w3 w2.heap.size 89 (fdC F) ∧ Below w2.heap.size w2 w3 ∧ w2.heap.size < w3.heap.size) := ⟨r4, k3, z3⟩; clear hr3 hs3 k3 z3)
    | (refine wpList_at_eq hw3 ?_; have hz := hw3; clear hz hw3)
    | (refine wpList_load_whole_g ?_ 89 (.tmp 5) rfl w2.heap.size 89 5 (fdC F) r4 rfl _ LF.out Tryz.underlying89 rfl (by kernel_rfl) ?_; · rfl))
  refine A3.2.2.mono ?_
  rintro e w4 ⟨rfl, hM4, hly4⟩
  dsimp only
  obtain ⟨w5, hw5⟩ : ∃ w5, w5 = w4.alloc (.cells #[.int .i64 ((layC c l B b).1 : Int)] 3) := ⟨_, rfl⟩
  have FINAL : Hid (PP (.returned (.func (.func 76) #[] #[.pointer (some ⟨w.heap.size, 0, none⟩), .pointer (some ⟨w2.heap.size, 0, none⟩), .pointer (some ⟨w.heap.size + 1, 0, none⟩), .pointer (some ⟨w4.heap.size, 0, none⟩)])) w5) := LST.out w2 w3 w4 w5 hb2 HK.out.1 HK.out.2.1 HK.out.2.2 hM4 hly4 (by rw [hw5]; exact Row.at _ _ _ _ _ rfl rfl) (by rw [hw5]; exact (Below.refl _ _).alloc (Nat.le_refl _) _)
  clear LST AFT A3 c3 c4 CP hM4 hly4 HK hb2 hb3 r3 r4 hz1
  generalize ((layC c l B b).1 : Int) = NN at *
  go_wp2_with (rw [← hw5]; have hz := hw5; clear hz hw5)
  exact FINAL.out
end Go.Proofs.YtpcgkjngpdplmaaGreatDoor
