import Derived.Test.YtpcgkjngpdplmaaGreatDoorI11Math
import Derived.Test.YtpcgkjngpdplmaaGreatDoorOpenA
import Derived.Test.YtpcgkjngpdplmaaGreatDoorR4Inv
import Derived.Test.YtpcgkjngpdplmaaGreatDoorA
import Derived.Deep.RegionHeld3
import Derived.Test.YtpcgkjngpdplmaaGreatDoorMem
import Derived.Test.YtpcgkjngpdplmaaGreatDoorRows
import Derived.DeepKeys

/-! The reference's images: four, Cover, May, Tagged, Make. -/
namespace Go.Proofs.YtpcgkjngpdplmaaGreatDoor
open Go.RowKit

/-- An image's cells. -/
def imgC (s k v : Int) (pl : Value) (t : List By) : List Value := [.int .i64 s, .int .i64 k, .int .i64 v, pl] ++ t.map B8
theorem imgC_len (s k v : Int) (pl : Value) (t : List By) (ht : t.length = 32) : (imgC s k v pl t).length = 36 := by simp [imgC, ht]
/-- May there be such an image? -/
def may (s k v : Int) (n : Nat) : Int := if s < 0 ∨ 7 < s ∨ k < 0 ∨ 63 < k ∨ v < 0 ∨ 4294967295 < v then 2 else if 524240 < n then 4 else 0

theorem Own.drew {N : Nat} {w : World} {v : Value} {m : List By} (h : Own N w v m) : Own N w.drew v m := h

end Go.Proofs.YtpcgkjngpdplmaaGreatDoor


/-! The reference's Tagged, Make, Body. -/
namespace Go.Proofs.YtpcgkjngpdplmaaGreatDoor
open Go.RowKit

theorem imgC_settag (s k v : Int) (pl : Value) (t t' : List By) (ht : t.length = 32) (ht' : t'.length = 32) : (imgC s k v pl t).take 4 ++ t'.map B8 ++ (imgC s k v pl t).drop (4 + (t'.map B8).length) = imgC s k v pl t' := by
  have e1 : (imgC s k v pl t).take 4 = [.int .i64 s, .int .i64 k, .int .i64 v, pl] := rfl
  rw [e1, List.drop_of_length_le (by rw [imgC_len s k v pl t ht]; simp [ht'])]
  simp [imgC]

set_option maxHeartbeats 1000000 in
set_option maxRecDepth 100000 in
theorem isB_take {w : World} {ao : Option Addr} {b : List By} (h : IsB w ao b) (k : Nat) : IsB w ao (b.take k) := by
  rcases h with rfl | ⟨B, off, rfl, hc⟩
  · left; simp
  · right
    refine ⟨B, off, rfl, fun j v hj => hc j v ?_⟩
    rw [List.getElem?_take] at hj
    split at hj
    · exact hj
    · cases hj

end Go.Proofs.YtpcgkjngpdplmaaGreatDoor


/-! A drawn region by an invariant over what has come up: one step an operation, whatever the number of orders. -/
namespace Go.Proofs.YtpcgkjngpdplmaaGreatDoor
open Go.RowKit

end Go.Proofs.YtpcgkjngpdplmaaGreatDoor


/-! The reference's must, number, Parse. -/
namespace Go.Proofs.YtpcgkjngpdplmaaGreatDoor
open Go.RowKit

theorem nat_beq (x n : Nat) : ((x : Int) == (n : Int)) = (x == n) := by
  rw [Bool.eq_iff_iff]; simp only [beq_iff_eq]; omega

theorem or_num (x0 x1 x2 x3 : Nat) (h0 : x0 < 256) (h1 : x1 < 256) (h2 : x2 < 256) : ((x0 ||| x1 * 256) ||| x2 * 65536) ||| x3 * 16777216 = x0 + x1 * 256 + x2 * 65536 + x3 * 16777216 := by
  have e1 : x0 ||| x1 * 256 = x0 + x1 * 256 := by
    rw [Nat.or_comm, Nat.mul_comm x1, show (256 : Nat) = 2 ^ 8 by rfl, ← Nat.two_pow_add_eq_or_of_lt (by simpa using h0)]; omega
  have e2 : (x0 + x1 * 256) ||| x2 * 65536 = x0 + x1 * 256 + x2 * 65536 := by
    rw [Nat.or_comm, Nat.mul_comm x2, show (65536 : Nat) = 2 ^ 16 by rfl, ← Nat.two_pow_add_eq_or_of_lt (by simp only [Nat.reducePow]; omega)]; omega
  have e3 : (x0 + x1 * 256 + x2 * 65536) ||| x3 * 16777216 = x0 + x1 * 256 + x2 * 65536 + x3 * 16777216 := by
    rw [Nat.or_comm, Nat.mul_comm x3, show (16777216 : Nat) = 2 ^ 24 by rfl, ← Nat.two_pow_add_eq_or_of_lt (by simp only [Nat.reducePow]; omega)]; omega
  rw [e1, e2, e3]
end Go.Proofs.YtpcgkjngpdplmaaGreatDoor


/-! The reference's Parse. -/
namespace Go.Proofs.YtpcgkjngpdplmaaGreatDoor
open Go.RowKit

/-- An image of nothing. -/
def zImg : List Value := imgC 0 0 0 (.slice none 0 0) (List.replicate 32 0)
theorem zImg_len : zImg.length = 36 := rfl
theorem zImg_one : ∀ v ∈ zImg, v.oneCell' = true := by
  intro v hv
  have : v ∈ zImg := hv
  simp [zImg, imgC] at this
  rcases this with rfl | rfl | rfl <;> rfl

end Go.Proofs.YtpcgkjngpdplmaaGreatDoor


/-! The reference's Parse of an image. (Printed by tools/genrparse.py.) -/
namespace Go.Proofs.YtpcgkjngpdplmaaGreatDoor
open Go.RowKit

theorem imgC_one (s k v : Int) (ao : Option Addr) (n c : Nat) (t : List By) : ∀ x ∈ imgC s k v (.slice ao n c) t, x.oneCell' = true := by
  intro x hx
  simp only [imgC, List.mem_append, List.mem_cons, List.not_mem_nil, or_false] at hx
  rcases hx with (rfl | rfl | rfl | rfl) | hx
  · rfl
  · rfl
  · rfl
  · rfl
  · exact B8_one t x hx
section
variable {W1 : World} {w : World} {B off X cap : Nat} {b : List By} {s k v : Nat} {L : Nat → Bool} {x61 x62 x63 x64 x65 x66 x67 x68 x69 x70 x71 x72 x7 : Value} {W W2 : World}
end
end Go.Proofs.YtpcgkjngpdplmaaGreatDoor


/-! The reference's Parse, one contract. -/
namespace Go.Proofs.YtpcgkjngpdplmaaGreatDoor
open Go.RowKit

end Go.Proofs.YtpcgkjngpdplmaaGreatDoor


namespace Go.Proofs.YtpcgkjngpdplmaaGreatDoor
open Go.RowKit

theorem Tryz.cells37 : Tryz.prog.cellsOf 37 = 32 := by kernel_rfl
theorem Tryz.cells5 : Tryz.prog.cellsOf 5 = 1 := by kernel_rfl

end Go.Proofs.YtpcgkjngpdplmaaGreatDoor


/-! The reference's Same. -/
namespace Go.Proofs.YtpcgkjngpdplmaaGreatDoor
open Go.RowKit

theorem step_load_part {ops : Array Oper} {op : Oper} {a : Act} {w : World} {K : Act → World → Prop} {Q : Exit → Act → World → Prop} {X : Prop} (hw : Region.wanted op (yielded ops a.tmps) = true) (ty : TypeId) (x : Operand) (ho : op.op = .load ty x)
    (g o t n : Nat) (cs : List Value) (hr : Row w g t cs) (hx : a.eval x = .pointer (some ⟨g, o, none⟩)) (d : TypeDesc) (cs' : List Value) (hcs : (cs.drop o).take n = cs') (hn : cs'.length = n)
    (hu : Tryz.prog.underlying ty = some d) (hd : d.isRow = true) (hi : (Tryz.prog.info? ty).map (·.size) = some n)
    (h : K (a.put op.dst (.agg cs'.toArray)) w) : if Region.wanted op (yielded ops a.tmps) = true then Oper.wp Tryz.prog op a w K Q else X := by
  subst hcs
  rw [if_pos hw]
  exact wp_load_mid ty x ho g o hx _ d (hr.range o n) hu hd (by rw [hn]; exact hi) h

end Go.Proofs.YtpcgkjngpdplmaaGreatDoor


namespace Go.Proofs.YtpcgkjngpdplmaaGreatDoor
open Go.RowKit

set_option maxHeartbeats 1000000 in
set_option maxRecDepth 100000 in
theorem schedule_any (D o : Nat) (bs : List By) (w : World) (hp : ∀ j, j < 64 → w.cell? ⟨D, o + j, none⟩ = some (B8 (bs.getD j 0))) :
    Calls Tryz.prog 126 #[.pointer (some ⟨D, o, none⟩)] w fun e w' => e = .returned (.agg ((sched bs).map U).toArray) ∧ Below w.heap.size w w' := by
  have hD : D < w.heap.size := block_lt_of_cell (hp 0 (by omega))
  go_enter Tryz.func126, Tryz.ntmps126
  go_wp2
  go_loopw [8] (fun i wr => ∃ k : Nat, k ≤ 16 ∧ i = .int .i64 k ∧ Row wr (w.heap.size + 1) 138 ((fill bs k).map U) ∧ Row wr w.heap.size 138 ((fill bs 0).map U) ∧ Below w.heap.size w wr)
    (fun i _ => 16 - (intOf i).toNat)
  case atStart => exact ⟨0, by omega, rfl, Row.at _ _ _ _ _ (by simp) rfl, (Row.at _ _ _ _ _ rfl rfl).alloc _, ((Below.refl _ _).alloc (Nat.le_refl _) _).alloc (by simp) _⟩
  case round =>
    obtain ⟨k, hk, rfl, hr1, hr0, hb⟩ := hrel
    by_cases hlt : k < 16
    · have c0 : wr.cell? ⟨D, o + 4 * k, none⟩ = some (.int .u8 ((bs.getD (4 * k) 0).toNat : Int)) := (hb.cell (p := ⟨D, o + 4 * k, none⟩) hD).trans (hp (4 * k) (by omega))
      have c1 : wr.cell? ⟨D, o + 4 * k + 1, none⟩ = some (.int .u8 ((bs.getD (4 * k + 1) 0).toNat : Int)) := (hb.cell (p := ⟨D, o + 4 * k + 1, none⟩) hD).trans (hp (4 * k + 1) (by omega))
      have c2 : wr.cell? ⟨D, o + 4 * k + 2, none⟩ = some (.int .u8 ((bs.getD (4 * k + 2) 0).toNat : Int)) := (hb.cell (p := ⟨D, o + 4 * k + 2, none⟩) hD).trans (hp (4 * k + 2) (by omega))
      have c3 : wr.cell? ⟨D, o + 4 * k + 3, none⟩ = some (.int .u8 ((bs.getD (4 * k + 3) 0).toNat : Int)) := (hb.cell (p := ⟨D, o + 4 * k + 3, none⟩) hD).trans (hp (4 * k + 3) (by omega))
      have q0 : (0 : Int) ≤ 4 * (k : Int) := by omega
      have q1 : 4 * (k : Int) ≤ 64 := by omega
      have s1 := hr1.word k (by rw [fill_len]; omega)
      have s2 := hr1.frozen k
      go_wp2_with fail
      refine (wordAt_any _ _ _ _ D (o + 4 * k) (64 - 4 * k) (64 - 4 * k) wr (by omega) c0 c1 c2 c3).mono ?_
      rintro e w' ⟨rfl, m, rfl⟩
      go_wp2
      go_roundw
      case rel => 
        refine ⟨k + 1, by omega, by go_num, ?_, ?_, ?_⟩
        · have := (hr1.drewN m).set k (.int .u32 ((wordOf bs k).toNat : Int))
          rw [map_set_U] at this
          exact this
        · exact (hr0.drewN m).setOther _ _ (by simp)
        · exact (Below_drewN hb m).setCell (by simp) _
      case measure => simp [intOf]; omega
    · obtain rfl : k = 16 := by omega
      clear hk hlt
      go_wp2
      go_loopw [5] (fun i wr => ∃ t : Nat, 16 ≤ t ∧ t ≤ 64 ∧ i = .int .i64 (t : Int) ∧ Row wr (w.heap.size + 1) 138 ((ext bs (t - 16)).map U) ∧ Row wr w.heap.size 138 ((fill bs 0).map U) ∧ Below w.heap.size w wr)
        (fun i _ => 64 - (intOf i).toNat)
      case atStart => exact ⟨16, by omega, by omega, rfl, hr1, hr0, hb⟩
      case round =>
        clear hr1 hr0 hb
        obtain ⟨t, ht, hk, rfl, hr1, hr0, hb⟩ := hrel
        by_cases hlt : t < 64
        · have hl := ext_len bs (t - 16)
          obtain ⟨x15, e15⟩ : ∃ x, x = (ext bs (t - 16)).getD (t - 15) 0 := ⟨_, rfl⟩
          obtain ⟨x2, e2⟩ : ∃ x, x = (ext bs (t - 16)).getD (t - 2) 0 := ⟨_, rfl⟩
          obtain ⟨x16, e16⟩ : ∃ x, x = (ext bs (t - 16)).getD (t - 16) 0 := ⟨_, rfl⟩
          obtain ⟨x7, e7⟩ : ∃ x, x = (ext bs (t - 16)).getD (t - 7) 0 := ⟨_, rfl⟩
          have g1 := hr1.word (t - 15) (by omega)
          have g2 := hr1.word (t - 2) (by omega)
          have g3 := hr1.word (t - 16) (by omega)
          have g4 := hr1.word (t - 7) (by omega)
          have s1 := hr1.word t (by omega)
          have s2 := hr1.frozen t
          rw [← e15] at g1
          rw [← e2] at g2
          rw [← e16] at g3
          rw [← e7] at g4
          have E : Hid (ext bs (t + 1 - 16) = (ext bs (t - 16)).set t (x16 + (rr x15 7 ^^^ rr x15 18 ^^^ x15 >>> 3) + x7 + (rr x2 17 ^^^ rr x2 19 ^^^ x2 >>> 10))) := by
            show _ = _
            rw [show t + 1 - 16 = (t - 16) + 1 by omega, ext, e15, e2, e16, e7, show 16 + (t - 16) = t by omega]
            rfl
          clear e15 e2 e16 e7 hl
          have i1 : (0 : Int) ≤ (t : Int) - 15 := by omega
          have i2 : (t : Int) - 15 < 64 := by omega
          have i3 : (0 : Int) ≤ (t : Int) - 2 := by omega
          have i4 : (t : Int) - 2 < 64 := by omega
          have i5 : (0 : Int) ≤ (t : Int) - 16 := by omega
          have i6 : (t : Int) - 16 < 64 := by omega
          have i7 : (0 : Int) ≤ (t : Int) - 7 := by omega
          have i8 : (t : Int) - 7 < 64 := by omega
          have i9 : (16 : Int) ≤ (t : Int) := by omega
          have i10 : (7 : Int) ≤ (t : Int) := by omega
          have i11 : ((t : Int) - 16).toNat = t - 16 := by omega
          have i12 : ((t : Int) - 7).toNat = t - 7 := by omega
          have i13 : (t : Int) < 80 := by omega
          have i14 : (t : Int) < 71 := by omega
          have n1 : t ≠ t - 16 := by omega
          have n2 : t ≠ t - 7 := by omega
          have n3 : t - 16 ≠ t := by omega
          have n4 : t - 7 ≠ t := by omega
          have j1 : IntKind.i64.wrap ((t : Int) - 16) = (t : Int) - 16 := i64_in _ (by omega) (by omega)
          have j2 : IntKind.i64.wrap ((t : Int) - 7) = (t : Int) - 7 := i64_in _ (by omega) (by omega)
          go_wp2
          go_quiet (fail)
          go_wp2
          go_region_held3 (fun w' => w'.cell? ⟨w.heap.size + 1, t - 16, none⟩ = some (.int .u32 (x16.toNat : Int)) ∧ w'.cell? ⟨w.heap.size + 1, t - 7, none⟩ = some (.int .u32 (x7.toNat : Int))) (first | go_keep | (refine ⟨?_, ?_⟩ <;> (rw [World.cell?_setCell_other _ _ _ _ (by first | (simp; done) | (simp; omega))]; first | exact g3 | exact g4)))
            ((go_at_call 127; refine (turn_at _ _ _ (by decide) (by decide)).mono ?_; rintro e w' ⟨rfl, rfl⟩))
          rw [wn_form x16 x15 x7 x2]
          generalize x16 + (rr x15 7 ^^^ rr x15 18 ^^^ x15 >>> 3) + x7 + (rr x2 17 ^^^ rr x2 19 ^^^ x2 >>> 10) = y at E ⊢
          go_wp2
          refine ⟨?_, ?measure⟩
          refine ⟨_, _, _, _, _, _, _, _, _, _, _, _, _, _, _, _, _, _, _, _, _, _, _, _, _, _, _, _, _, _, _, _, _, _, _, _, _, _, _, _, _, _, _, _, ?rel, rfl⟩
          case rel =>
            refine ⟨t + 1, by omega, by omega, by go_num, ?_, ?_, ?_⟩
            · have R := (hr1.drewN (nq + 1)).set t (.int .u32 (y.toNat : Int))
              rw [map_set_U, ← E.out] at R
              exact R
            · exact (hr0.drewN (nq + 1)).setOther _ _ (by simp)
            · exact (Below_drewN hb (nq + 1)).setCell (by simp) _
          case measure => simp [intOf]; omega
        · obtain rfl : t = 64 := by omega
          clear hk hlt ht
          go_wp2_with (first | (refine wpList_load_Row rfl 138 _ rfl _ _ _ hr1 rfl _ Tryz.underlying138 rfl (by rw [List.length_map, ext_len]; kernel_rfl) ?_) | (refine wpList_store_Row rfl 138 _ _ rfl _ _ 0 _ _ hr0 (by simp [ext_len, fill_len]) rfl rfl (by rw [List.length_map, ext_len]; kernel_rfl) (U_one _) ?_; intro w1 hr2 hs2))
          have hr3 : Row w1 w.heap.size 138 ((sched bs).map U) := by
            have : Row w1 w.heap.size 138 ((ext bs 48).map U ++ ((fill bs 0).map U).drop ((ext bs 48).length)) := by simpa using hr2
            rwa [List.drop_eq_nil_of_le (by simp [ext_len, fill_len]), List.append_nil] at this
          exact bodyPost_ret_by (results_Row Tryz.results126 _ w1 w.heap.size 138 _ _ rfl hr3 Tryz.underlying138 rfl (by rw [List.length_map, sched_len]; kernel_rfl)) rfl ⟨rfl, hs2.below hb (Nat.le_refl _)⟩

end Go.Proofs.YtpcgkjngpdplmaaGreatDoor
