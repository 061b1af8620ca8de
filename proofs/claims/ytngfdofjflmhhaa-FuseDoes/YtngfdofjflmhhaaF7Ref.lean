
import Derived.Test.YtngfdofjflmhhaaF7Math
/-! Layer 7, the document's answer: may, Count, Revoked. -/
namespace Go.Proofs.Ytngfdofjflmhhaa
open Go.RowKit

set_option maxHeartbeats 1000000 in
set_option maxRecDepth 100000 in
theorem q7may_any (F : RF) (s : RS) (i n : Int) (w : World) (h : RAt w F s) :
    Calls Try.prog 44 #[.pointer (some ⟨F.g, 0, none⟩), .int .i64 i, .int .i64 n] w fun e w' => e = .returned (.int .i64 (s.ask i n)) ∧ w' = w := by
  have c11 := h.cGone
  rcases ask_or s i n with ⟨e0, hg⟩ | ⟨hg, ⟨e0, hi⟩ | ⟨e0, i1, i2⟩⟩
  · rw [e0]
    rw [hg] at c11
    go_enter Try.func44, Try.ntmps44
    go_wp2
    go_ret
    exact ⟨rfl, rfl⟩
  · rw [e0]
    rw [hg] at c11
    by_cases hi0 : i < 0
    · go_enter Try.func44, Try.ntmps44
      go_wp2
      go_ret
      exact ⟨rfl, rfl⟩
    · have hi1 : n ≤ i := by omega
      have hi2 : i ≥ n := hi1
      go_enter Try.func44, Try.ntmps44
      go_wp2
      go_ret
      exact ⟨rfl, rfl⟩
  · rw [e0]
    rw [hg] at c11
    have hi0 : ¬ i < 0 := by omega
    have hi1 : ¬ n ≤ i := by omega
    have hi2 : ¬ i ≥ n := by omega
    go_enter Try.func44, Try.ntmps44
    go_wp2
    go_ret
    exact ⟨rfl, rfl⟩

set_option maxHeartbeats 1000000 in
set_option maxRecDepth 100000 in
theorem q7count_any (F : RF) (s : RS) (slot : Int) (w : World) (h : RAt w F s) (hf : s.Fu) :
    Calls Try.prog 26 #[.pointer (some ⟨F.g, 0, none⟩), .int .i64 slot] w fun e w' => e = .returned (.tuple #[.int .i64 (s.count slot), .int .i64 (s.countE slot)]) ∧ Dr w w' := by
  have HM : Hid (∀ W, W = w → Calls Try.prog 44 #[.pointer (some ⟨F.g, 0, none⟩), .int .i64 slot, .int .i64 s.c.slots] W fun e w' => e = .returned (.int .i64 (s.countE slot)) ∧ w' = W) := by
    rintro W rfl
    exact q7may_any F s slot s.c.slots W h
  have c1 : w.cell? ⟨F.g, 1, none⟩ = some (.int .i64 s.c.slots) := h.row.cell 1 _ rfl
  have c2 : w.cell? ⟨F.g, 2, none⟩ = some (.int .i64 s.c.fuses) := h.row.cell 2 _ rfl
  have c9 := h.cBl
  by_cases h0 : s.countE slot = 0
  · obtain ⟨_, i1, i2⟩ := ask_zero h0
    obtain ⟨r1, r2, r3, r4⟩ := hf.row i1 i2
    have hbl := hf.bl
    have hk := hf.k1
    have f1 := hf.f1
    have f2 := hf.f2
    have ec : s.count slot = (cnt s.blown (s.o7 slot) s.c.fuses.toNat : Int) := by unfold RS.count; rw [if_pos h0]
    rw [ec, h0]
    rw [h0] at HM
    have HC : Hid (∀ W, Dr w W → ∀ p : Nat, (p : Int) < s.c.fuses → W.cell? ⟨F.bB, s.o7 slot + p, none⟩ = some (.bool (s.blown.getD (s.o7 slot + p) false))) := fun W d p hp => d.cell (h.bl.cell _ _ (by
      rw [List.getElem?_map, List.getD_eq_getElem?_getD, List.getElem?_eq_getElem (by omega)]; rfl))
    have HST : Hid (∀ p, cnt s.blown (s.o7 slot) (p + 1) = cnt s.blown (s.o7 slot) p + (if s.blown.getD (s.o7 slot + p) false then 1 else 0)) := fun p => rfl
    have HZ : Hid (cnt s.blown (s.o7 slot) 0 = 0) := rfl
    have HLE : Hid (∀ p, cnt s.blown (s.o7 slot) p ≤ p) := fun p => by
      show cnt s.blown (s.o7 slot) p ≤ p
      induction p with
      | zero => exact Nat.le_refl _
      | succ p ih => rw [HST.out]; split <;> omega
    generalize cnt s.blown (s.o7 slot) = ct at *
    generalize s.o7 slot = o at *
    generalize s.blown.length = BL at *
    generalize s.c.slots * s.c.fuses = SF at *
    clear ec h0 hf h
    generalize s.c.fuses = FSZ at *
    obtain ⟨fn, rfl⟩ := Int.eq_ofNat_of_zero_le (a := FSZ) (by omega)
    have w1 : IntKind.i64.wrap (slot * (fn : Int)) = slot * (fn : Int) := i64_in _ (by omega) (by omega)
    go_enter Try.func26, Try.ntmps26
    go_wp2_with (refine (HM.out _ rfl).mono ?_; rintro e w1 ⟨rfl, rfl⟩)
    go_loopw [7, 8] (fun nv iv wr => ∃ p : Nat, p ≤ fn ∧ iv = .int .i64 p ∧ nv = .int .i64 (ct p) ∧ Dr w1 wr) (fun _ iv _ => fn - (intOf iv).toNat)
    case atStart => exact ⟨0, by omega, rfl, by rw [HZ.out]; rfl, Dr.refl _⟩
    case round =>
      obtain ⟨p, hp, rfl, rfl, d⟩ := hrel
      have c2' := d.cell c2
      have c9' := d.cell c9
      by_cases hlt : p < fn
      · have y1 : (p : Int) < (fn : Int) := by omega
        have cx := HC.out wr d p y1
        have hn := HST.out p
        obtain ⟨q, hq⟩ : ∃ q, q = o + p := ⟨_, rfl⟩
        rw [← hq] at cx hn
        have w2 : IntKind.i64.wrap (slot * (fn : Int) + (p : Int)) = (q : Int) := by rw [← r4, hq]; exact i64_in _ (by omega) (by omega)
        have y0 : (0 : Int) ≤ (q : Int) := by omega
        have y2 : (q : Int) < (BL : Int) := by omega
        clear hq
        have hle := HLE.out p
        have w3 : IntKind.i64.wrap ((ct p : Int) + 1) = (ct p : Int) + 1 := i64_in _ (by omega) (by omega)
        generalize s.blown.getD q false = b at *
        cases b
        · have HN : Hid (ct (p + 1) = ct p) := by show _ = _; simpa using hn
          go_wp2
          go_quiet (fail)
          go_wp2
          exact ⟨⟨p + 1, by omega, by simp, by rw [HN.out], d.drewN _⟩, by simp [intOf]; omega⟩
        · have HN : Hid (ct (p + 1) = ct p + 1) := by show _ = _; simpa using hn
          go_wp2
          go_quiet (fail)
          go_wp2
          exact ⟨⟨p + 1, by omega, by simp, by rw [HN.out]; simp, d.drewN _⟩, by simp [intOf]; omega⟩
      · have y1 : ¬ (p : Int) < (fn : Int) := by omega
        obtain rfl : p = fn := by omega
        go_wp2
        go_ret2
        exact ⟨by simp, d⟩
  · have ec : s.count slot = 0 := by unfold RS.count; rw [if_neg h0]
    rw [ec]
    generalize s.countE slot = f at *
    have e1 : (f != 0) = true := by rw [bne_iff_ne]; exact h0
    go_enter Try.func26, Try.ntmps26
    go_wp2_with (refine (HM.out _ rfl).mono ?_; rintro e w1 ⟨rfl, rfl⟩)
    go_ret2
    exact ⟨rfl, Dr.refl _⟩

set_option maxHeartbeats 1000000 in
set_option maxRecDepth 100000 in
theorem q7revoked_any (F : RF) (s : RS) (k : Int) (w : World) (h : RAt w F s) (hf : s.Fu) :
    Calls Try.prog 28 #[.pointer (some ⟨F.g, 0, none⟩), .int .i64 k] w fun e w' => e = .returned (.tuple #[.bool (s.revoked k), .int .i64 (s.revokedE k)]) ∧ Dr w w' := by
  have HM : Hid (∀ W, W = w → Calls Try.prog 44 #[.pointer (some ⟨F.g, 0, none⟩), .int .i64 k, .int .i64 s.c.keys] W fun e w' => e = .returned (.int .i64 (s.revokedE k)) ∧ w' = W) := by
    rintro W rfl
    exact q7may_any F s k s.c.keys W h
  have c1 : w.cell? ⟨F.g, 1, none⟩ = some (.int .i64 s.c.slots) := h.row.cell 1 _ rfl
  have c2 : w.cell? ⟨F.g, 2, none⟩ = some (.int .i64 s.c.fuses) := h.row.cell 2 _ rfl
  have c4 : w.cell? ⟨F.g, 4, none⟩ = some (.int .i64 s.c.keys) := h.row.cell 4 _ rfl
  have c9 := h.cBl
  by_cases h0 : s.revokedE k = 0
  · obtain ⟨_, i1, i2⟩ := ask_zero h0
    have hbl := hf.bl
    obtain ⟨m1, m2⟩ := hf.mul
    have k2 := hf.k2
    have ec : s.revoked k = s.blown.getD (s.key k).toNat false := by unfold RS.revoked; rw [if_pos h0]
    have ek : s.key k = s.c.slots * s.c.fuses + k := rfl
    have cx : w.cell? ⟨F.bB, (s.key k).toNat, none⟩ = some (.bool (s.blown.getD (s.key k).toNat false)) := h.bl.cell _ _ (by
      rw [List.getElem?_map, List.getD_eq_getElem?_getD, List.getElem?_eq_getElem (by omega)]; rfl)
    rw [ec, h0]
    rw [h0] at HM
    generalize s.blown.getD (s.key k).toNat false = b at *
    rw [ek] at cx
    have w1 : IntKind.i64.wrap (s.c.slots * s.c.fuses) = s.c.slots * s.c.fuses := i64_in _ (by omega) (by omega)
    have w2 : IntKind.i64.wrap (s.c.slots * s.c.fuses + k) = s.c.slots * s.c.fuses + k := i64_in _ (by omega) (by omega)
    have y0 : 0 ≤ s.c.slots * s.c.fuses + k := by omega
    have y1 : s.c.slots * s.c.fuses + k < (s.blown.length : Int) := by omega
    generalize s.blown.length = BL at *
    clear ec h0 hf h ek
    generalize s.c.slots = SL at *
    generalize s.c.fuses = FSZ at *
    generalize s.c.keys = KS at *
    go_enter Try.func28, Try.ntmps28
    go_wp2_with (refine (HM.out _ rfl).mono ?_; rintro e w1 ⟨rfl, rfl⟩)
    go_quiet (fail)
    go_wp2
    go_ret2
    exact ⟨rfl, ⟨nq, rfl⟩⟩
  · have ec : s.revoked k = false := by unfold RS.revoked; rw [if_neg h0]
    rw [ec]
    generalize s.revokedE k = f at *
    have e1 : (f != 0) = true := by rw [bne_iff_ne]; exact h0
    go_enter Try.func28, Try.ntmps28
    go_wp2_with (refine (HM.out _ rfl).mono ?_; rintro e w1 ⟨rfl, rfl⟩)
    go_ret2
    exact ⟨rfl, Dr.refl _⟩
end Go.Proofs.Ytngfdofjflmhhaa
