
import Derived.Test.YtngfdofjflmhhaaF7CodeA
/-! Layer 7, the program's Raise. -/
namespace Go.Proofs.Ytngfdofjflmhhaa
open Go.RowKit
set_option linter.unusedVariables false

/-- How long a slice is. -/
def lenV : Value → Nat
  | .slice _ n _ => n
  | _ => 0

/-- All but the first of a slice. -/
theorem run_tail1 (g j M c : Nat) (hM : 1 ≤ M) (hc : M ≤ c) : ∃ ao' M' c', M' = M - 1 ∧ c' = c - 1 ∧ (∀ w, (Instr.slice 25 (.slice (some ⟨g, j, none⟩) M c) (some (.int .i64 1)) none none).run Try.prog w = .ok (.slice ao' M' c') w) ∧ (2 ≤ c → ao' = some ⟨g, j + 1, none⟩) := by
  have ht : Try.prog.underlying 25 = some (.slice 3) := Try.underlying25
  have ht' : Try.prog.underlying 25 = some (.slice (Try.prog.elem 25)) := by simp [Program.elem, ht]
  have he : Try.prog.elem 25 = 3 := by simp [Program.elem, ht]
  have hz : ∀ w, (Go.sizeOf 3).run Try.prog w = .ok 1 w := fun w => by kernel_rfl
  refine ⟨if c = 1 then some ⟨g, j, none⟩ else some ⟨g, j + 1, none⟩, M - 1, c - 1, rfl, rfl, fun w => ?_, fun h => if_neg (by omega)⟩
  rw [run_slice_l w 25 _ _ _ ht' .i64 _ (by omega) (by omega), he, hz]
  by_cases h1 : c = 1
  · simp [Result.andThen, sliced, h1]
  · simp [Result.andThen, sliced, Addr.add, h1]

set_option maxHeartbeats 2000000 in
set_option maxRecDepth 100000 in
theorem furaise_any (G : RF) (s : RS) (S : ByteArray) (slot n : Int) (w : World) (h : CAt w G s S) (hf : s.Fu) (hg : s.Good) (hn : s.n < 4611686018427387000) :
    Calls Try.prog 15 #[.pointer (some ⟨G.g, 0, none⟩), .int .i64 slot, .int .i64 n] w (CPost G (s.raise slot n).1 (s.raise slot n).2 w) := by
  have fl2 := cfg_fuses
  have HW : Hid (∀ W, Below w.heap.size w W → CAt W G s S) := fun W hW => h.below hW (Nat.le_refl _)
  have HCF : Hid (∀ W, Below w.heap.size w W → Calls Try.prog 35 #[.pointer (some ⟨G.g, 0, none⟩)] W fun e w' => e = .returned (.agg #[.int .i64 s.c.cells, .int .i64 s.c.slots, .int .i64 s.c.fuses, .int .i64 s.c.step, .int .i64 s.c.keys, .int .i64 s.c.erases, .int .i64 s.c.area]) ∧ Below W.heap.size W w') := fun W hW =>
    cconfig7 G s S W (HW.out W hW)
  have HST : Hid (∀ W, Below w.heap.size w W → (∃ S', CAt W G s S') ∧ KeptL G.blocks w W) := fun W hW => ⟨⟨S, HW.out W hW⟩, (KeptL.refl _ _).below hW (Nat.le_refl _)⟩
  have HRS : Hid (s.raise slot n = if s.countE slot = 0 then (if n < 0 ∨ s.c.fuses < n then (s, 2) else raiseGo (s.o7 slot) n s.c.fuses.toNat 0 (s.count slot) s) else (s, s.countE slot)) := rfl
  have HGB : Hid (∀ b ∈ G.blocks, b < w.heap.size) := h.blt
  generalize s.raise slot n = R at *
  by_cases h0 : s.countE slot = 0
  · obtain ⟨hgo, i1, i2⟩ := ask_zero h0
    obtain ⟨r1, r2, r3, r4⟩ := hf.row i1 i2
    have hbl := hf.bl
    have hk := hf.k1
    have f1 := hf.f1
    have f2 := hf.f2
    have HU : Hid (Calls Try.prog 34 #[.pointer (some ⟨G.g, 0, none⟩), .int .i64 slot] w fun e w' => ∃ v, e = .returned (.tuple #[v, .int .i64 0]) ∧ Lst w.heap.size w' v (unb s.blown (s.o7 slot) 0 s.c.fuses.toNat) ∧ Below w.heap.size w w') := fuunblown_ok G s S slot w h hf h0
    by_cases hn1 : n < 0 ∨ s.c.fuses < n
    · have HE : Hid (R = (s, 2)) := by show _ = _; rw [HRS.out, if_pos h0, if_pos hn1]
      clear HRS hbl hf
      generalize unb s.blown (s.o7 slot) 0 s.c.fuses.toNat = U at *
      by_cases hn2 : n < 0
      · go_enter Try.func15, Try.ntmps15
        go_wp2_with (first | (refine HU.out.mono ?_; rintro e w1 ⟨v1, rfl, hl1, hb1⟩) | (refine (HCF.out _ hb1).mono ?_; rintro e w2 ⟨rfl, hb2⟩))
        go_ret
        rw [HE.out]
        exact ⟨rfl, HST.out _ (hb1.trans (hb2.mono hb1.size))⟩
      · have hn3 : n > s.c.fuses := by omega
        have hn4 : s.c.fuses < n := hn3
        go_enter Try.func15, Try.ntmps15
        go_wp2_with (first | (refine HU.out.mono ?_; rintro e w1 ⟨v1, rfl, hl1, hb1⟩) | (refine (HCF.out _ hb1).mono ?_; rintro e w2 ⟨rfl, hb2⟩))
        go_ret
        rw [HE.out]
        exact ⟨rfl, HST.out _ (hb1.trans (hb2.mono hb1.size))⟩
    · have hn2 : ¬ n < 0 := by omega
      have hn3 : ¬ n > s.c.fuses := by omega
      have hn4 : ¬ s.c.fuses < n := by omega
      obtain ⟨fn, hfn⟩ : ∃ fn, fn = s.c.fuses.toNat := ⟨_, rfl⟩
      have hfz : s.c.fuses = (fn : Int) := by omega
      have ec : s.count slot = (cnt s.blown (s.o7 slot) s.c.fuses.toNat : Int) := by unfold RS.count; rw [if_pos h0]
      have HRI : Hid (Rl7 n R s s ((unb s.blown (s.o7 slot) 0 fn).drop 0) 0 (s.count slot + (0 : Nat)) 0) := by
        refine ⟨hf, hg, rfl, by omega, fun _ => ?_, fun h => absurd rfl h⟩
        rw [List.drop_zero, ← raiseGo_eq, HRS.out, if_pos h0, if_neg hn1, hfn]
        congr 1
        omega
      have HBL : Hid (∀ s' : RS, s'.Fu → s'.c = s.c → s.o7 slot + fn ≤ s'.blown.length) := fun s' h1 h2 => by
        have := h1.bl; rw [h2] at this; omega
      have HMM : Hid (∀ q ∈ unb s.blown (s.o7 slot) 0 fn, s.o7 slot ≤ q ∧ q < s.o7 slot + fn) := fun q hq => by have := unb_mem fn 0 q hq; omega
      have el := unb_len s.blown (s.o7 slot) fn
      rw [← hfn] at ec HU
      generalize unb s.blown (s.o7 slot) 0 fn = U at *
      generalize cnt s.blown (s.o7 slot) fn = ct at *
      clear HRS hbl hf hg hn1 HW h
      rw [ec] at HRI
      clear ec
      generalize s.o7 slot = o at *
      rw [hfz] at HCF hn3 hn4 f1 f2 r1 r2 r3 r4
      have w1 : IntKind.i64.wrap ((fn : Int) - n) = (fn : Int) - n := i64_in _ (by omega) (by omega)
      have r3' : (o : Int) ≤ 512 := by omega
      clear hfz hfn r1 r2 r3 r4 i1 i2 hk h0
      go_enter Try.func15, Try.ntmps15
      go_wp2_with (first | (refine HU.out.mono ?_; rintro e w1 ⟨v1, rfl, hl1, hb1⟩) | (refine (HCF.out _ hb1).mono ?_; rintro e w2 ⟨rfl, hb2⟩))
      have HT0 : Hid (Tl w.heap.size w2 v1 U 0) := hl1.tl.kept ((KeptL.refl [] w1).below hb2 (Nat.le_refl _)) (fun b hb => by cases hb)
      have hb3 : Below w.heap.size w w2 := hb1.trans (hb2.mono hb1.size)
      go_loopw [7] (fun lv wr => ∃ (j : Nat) (s' : RS), j ≤ U.length ∧ s'.gone = false ∧ Hid (Tl w.heap.size wr lv U j) ∧ Hid (Rl7 n R s s' (U.drop j) j ((ct : Int) + (j : Nat)) 0) ∧ Hid (∃ S', CAt wr G s' S') ∧ Hid (KeptL G.blocks w wr)) (fun lv _ => lenV lv)
      case atStart => exact ⟨0, s, by omega, hgo, HT0.out, HRI.out, (HST.out _ hb3).1, (HST.out _ hb3).2⟩
      case round =>
        clear HU HCF HST hb1 hb2 hb3 HT0 hl1 HRI
        obtain ⟨j, s', hj, hgo', ht, hra, hr, kl⟩ := hrel
        obtain ⟨ao, c, rfl, hc, hcell⟩ := ht.out
        obtain ⟨M, hM⟩ : ∃ M, M = U.length - j := ⟨_, rfl⟩
        rw [← hM] at hc
        rw [← hM]
        have HMU : Hid (M = U.length - j) := hM
        by_cases hkn : n ≤ (ct : Int) + (j : Nat)
        · have y2 : ¬ (M : Int) > (fn : Int) - n := by omega
          have y2' : ¬ (fn : Int) - n < (M : Int) := by omega
          clear hM
          have HE : Hid (R = (s', 0)) := hra.out.fin (.inl hkn)
          go_wp2
          go_ret
          rw [HE.out]
          exact ⟨rfl, hr.out, kl.out⟩
        · have y2 : (M : Int) > (fn : Int) - n := by omega
          have y2' : (fn : Int) - n < (M : Int) := by omega
          have hjl : j < U.length := by omega
          have y3 : (0 : Int) < (M : Int) := by omega
          obtain ⟨g, rfl, hgN, hgs, hce⟩ := hcell hjl
          clear hcell
          have hdr : U.drop j = U[j] :: U.drop (j + 1) := List.drop_eq_getElem_cons hjl
          have hq0 : U[j]? = some U[j] := List.getElem?_eq_getElem hjl
          have hqm := HMM.out U[j] (List.getElem_mem hjl)
          have c0 := hce j U[j] hq0
          have hra2 := hra.out
          rw [hdr] at hra2
          generalize U[j] = q at *
          have HRB : Hid (Rl7 n R s (s'.blow (q : Int)) (U.drop (j + 1)) (j + 1) ((ct : Int) + ((j + 1 : Nat) : Int)) (s'.blowE (q : Int))) := by
            have := hra2.blow hkn
            rw [show (ct : Int) + ((j + 1 : Nat) : Int) = (ct : Int) + (j : Nat) + 1 by omega]
            exact this
          have hbl := HBL.out s' hra.out.fu hra.out.c
          have hsn := hra.out.an
          have HBA : Hid (Calls Try.prog 31 #[.pointer (some ⟨G.g, 0, none⟩), .int .i64 (q : Int)] wr (CPost G (s'.blow (q : Int)) (s'.blowE (q : Int)) wr)) := by
            obtain ⟨S', c⟩ := hr.out
            exact cblow_any G s' S' q wr c hra.out.good.n0 (by omega) hra.out.good.wt
          have HGO : Hid (s'.blowE (q : Int) = 0 → (s'.blow (q : Int)).gone = false) := fun he => by
            have hz : s'.fuse (q : Int) = 0 := fuse_of hgo' (by omega) (by omega)
            unfold RS.blowE at he
            rw [if_pos hz] at he
            have hc : s'.cut = false := by
              cases hc : s'.cut with
              | false => rfl
              | true => rw [hc] at he; simp at he
            unfold RS.blow
            rw [if_pos hz]
            show (if s'.wait = 0 then true else s'.gone) = false
            unfold RS.cut at hc
            rw [if_neg (by simpa using hc)]
            exact hgo'
          obtain ⟨ao', M', c', hM', hc', hsl, hao'⟩ := run_tail1 g j M c (by omega) (by omega)
          have c0' : wr.cell? ⟨g, j, none⟩ = some (.int .i64 (q : Int)) := c0
          have h2c : j + 1 < U.length → 2 ≤ c := by intro hh; omega
          have HT : Hid (∀ W, KeptL G.blocks wr W → Tl w.heap.size W (.slice ao' M' c') U (j + 1)) := fun W kw => by
            have hM'' : M' = U.length - (j + 1) := by omega
            rw [hM'']
            refine ⟨ao', c', rfl, by omega, fun hj1 => ⟨g, hao' (h2c hj1), hgN, Nat.lt_of_lt_of_le hgs kw.size, fun i q' hq' => ?_⟩⟩
            rw [← hce i q' hq']
            unfold World.cell?
            rw [kw.block g hgs (fun hm => by have := HGB.out g hm; omega)]
          have HMS : Hid (M' < M) := by show _ < _; omega
          clear h2c hM hdr hq0 hqm c0 hra2 ht hbl hce hM' hc' hao'
          generalize s'.blowE (q : Int) = E at *
          generalize s'.blow (q : Int) = s2 at *
          by_cases hE : E = 0
          · have HGO2 := HGO.out hE
            subst hE
            clear HGO
            go_wp2_with (refine HBA.out.mono ?_; rintro e2 w4 ⟨rfl, hc4, kl4⟩)
            exact ⟨⟨j + 1, s2, by omega, HGO2, HT.out _ kl4, HRB.out, hc4, kl.out.trans kl4⟩, HMS.out⟩
          · have hE1 : (E != 0) = true := by rw [bne_iff_ne]; exact hE
            have HE : Hid (R = (s2, E)) := HRB.out.fin (.inr hE)
            clear HGO
            go_wp2_with (refine HBA.out.mono ?_; rintro e2 w4 ⟨rfl, hc4, kl4⟩)
            go_ret
            rw [HE.out]
            exact ⟨rfl, hc4, kl.out.trans kl4⟩
  · have HE : Hid (R = (s, s.countE slot)) := by show _ = _; rw [HRS.out, if_neg h0]
    have HU : Hid (Calls Try.prog 34 #[.pointer (some ⟨G.g, 0, none⟩), .int .i64 slot] w fun e w' => e = .returned (.tuple #[.slice none 0 0, .int .i64 (s.countE slot)]) ∧ Below w.heap.size w w') := fuunblown_no G s S slot w h h0
    clear HRS
    generalize s.countE slot = f at *
    have e1 : (f != 0) = true := by rw [bne_iff_ne]; exact h0
    go_enter Try.func15, Try.ntmps15
    go_wp2_with (refine HU.out.mono ?_; rintro e w1 ⟨rfl, hb1⟩)
    go_ret
    rw [HE.out]
    exact ⟨rfl, HST.out _ hb1⟩

end Go.Proofs.Ytngfdofjflmhhaa
