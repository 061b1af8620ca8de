import Derived.Test.YtcpdanjbnijoiaaDoorC4Read
import Derived.Laws.BytesString

/-! The code's chip: keep, Cut, Blow. -/
namespace Go.Proofs.YtcpdanjbnijoiaaDoor
open Go.RowKit

/-- The string of bytes. -/
def strOf (bs : List By) : ByteArray := (bs.map fun b => (b.toNat : Int)).foldl (fun r n => r.push (UInt8.ofNat n.toNat)) ByteArray.empty
theorem fold_push : ∀ (l : List Int) (acc : ByteArray), (l.foldl (fun r n => r.push (UInt8.ofNat n.toNat)) acc).data = acc.data ++ (l.map fun n => UInt8.ofNat n.toNat).toArray
  | [], acc => by simp
  | n :: l, acc => by
    rw [List.foldl_cons, fold_push l]
    simp [ByteArray.push]
theorem strOf_data (bs : List By) : (strOf bs).data = (bs.map fun b => UInt8.ofNat b.toNat).toArray := by
  unfold strOf
  rw [fold_push]
  have h0 : ByteArray.empty.data = #[] := rfl
  rw [h0]
  simp [Function.comp_def]
theorem strOf_is (bs : List By) : StrIs (strOf bs) bs := by
  have hd := strOf_data bs
  have hs : (strOf bs).size = bs.length := by
    show (strOf bs).data.size = _
    rw [hd]; simp
  refine ⟨hs, fun i hi => ?_⟩
  have hi' : i < bs.length := by omega
  have e : (strOf bs)[i]'hi = UInt8.ofNat (bs[i].toNat) := by
    show (strOf bs).data[i] = _
    simp only [hd]
    simp
  rw [e, List.getD_eq_getElem?_getD, List.getElem?_eq_getElem hi']
  have := b8_lt bs[i]
  simp only [Option.getD_some]
  rw [UInt8.toNat_ofNat']
  omega

theorem conv_mask (w : World) (ao : Option Addr) (n cap : Nat) (bs : List By) (hn : bs.length = n) (hb : IsB w ao bs) :
    (convert 29 54 (.slice ao n cap)).run Tryd.prog w = .ok (.string (strOf bs)) w := by
  subst hn
  rw [run_convert_bytes_string w 29 54 5 ao bs.length cap Tryd.underlying29 Tryd.underlying5 Tryd.underlying54]
  have key : ∀ a : Addr, (∀ j v, (bs.map B8)[j]? = some v → w.cell? (a.add j) = some v) → (Conv.bytesToString (.slice (some a) bs.length cap)).run Tryd.prog w = .ok (.string (strOf bs)) w := by
    intro a h
    have hl := run_loadCells_list (P := Tryd.prog) w a (bs.map B8) h
    rw [List.length_map] at hl
    have e : bs.map B8 = (bs.map fun b => (b.toNat : Int)).map (Value.int .u8) := by
      rw [List.map_map]; rfl
    rw [e] at hl
    exact run_bytesToString w a bs.length cap _ hl
  rcases hb with rfl | ⟨B, off, rfl, hc⟩
  · cases ao with
    | none => rfl
    | some a => exact key a (by simp)
  · refine key _ ?_
    intro j u hu
    rw [Addr.add_mid]
    rw [List.getElem?_map] at hu
    cases hj : bs[j]? with
    | none => rw [hj] at hu; cases hu
    | some v =>
      rw [hj] at hu
      injection hu with hu
      rw [← hu]; exact hc j v hj

theorem take_bits (m : List By) (K : Nat) (i : Nat) (hi : i < K) : bitsAt (m.take (min m.length K)) i = bitsAt m i := by
  by_cases h : m.length ≤ K
  · rw [Nat.min_eq_left h, List.take_length]
  · rw [Nat.min_eq_right (by omega)]
    unfold bitsAt
    rw [List.length_take, Nat.min_eq_left (by omega), Nat.mod_eq_of_lt hi, Nat.mod_eq_of_lt (by omega), List.getD_eq_getElem?_getD, List.getElem?_take_of_lt hi, ← List.getD_eq_getElem?_getD]

def KeepPost (cells : Int) (m : List By) (w : World) (e : Ending) (w' : World) : Prop := ∃ S, e = .returned (.string S) ∧ MskIs cells m S ∧ w' = w

set_option maxHeartbeats 2000000 in
set_option maxRecDepth 100000 in
theorem ckeep_any (ao : Option Addr) (n cap : Nat) (m : List By) (hm : m.length = n) (w : World) (hb : IsB w ao m) (hcap : n ≤ cap) (hl : n ≤ 140737488355328) (cells : Int) (h1 : 1 ≤ cells) (h2 : cells ≤ 256) :
    Calls Tryd.prog 19 #[.slice ao n cap, .int .i64 cells] w (KeepPost cells m w) := by
  by_cases hz : n = 0
  · subst hz
    have hm0 : m = [] := List.length_eq_zero_iff.1 hm
    have HE : Hid (KeepPost cells m w (.returned (.string ⟨#[0]⟩)) w) := ⟨_, rfl, ⟨[0#8], one_is _ _ rfl, by simp, fun i _ => by rw [bits_one, hm0]; rfl⟩, rfl⟩
    clear hb hm0 hm
    go_enter Tryd.func19, Tryd.ntmps19
    go_wp2
    go_ret
    exact HE.out
  · obtain ⟨B, off, rfl, hc⟩ : ∃ B off, ao = some ⟨B, off, none⟩ ∧ ∀ j v, m[j]? = some v → w.cell? ⟨B, off + j, none⟩ = some (B8 v) := by
      rcases hb with rfl | hb
      · exact absurd hm.symm hz
      · exact hb
    obtain ⟨cn, rfl⟩ := Int.eq_ofNat_of_zero_le (show 0 ≤ cells by omega)
    have e1 : ((n : Int) == 0) = false := by rw [beq_eq_false_iff_ne]; omega
    obtain ⟨K, hK⟩ : ∃ K, K = min n (cn * 32) := ⟨_, rfl⟩
    have hK1 : K ≤ n := by omega
    have hmin : min (n : Int) ((cn : Int) * 32) = (K : Int) := by omega
    have j1 : IntKind.i64.wrap ((cn : Int) * 32) = (cn : Int) * 32 := i64_in _ (by omega) (by omega)
    have i1 : (0 : Int) ≤ (K : Int) := by omega
    have i2 : (K : Int) ≤ (cap : Int) := by omega
    have i3 : K ≤ cap := by omega
    have HC : Hid ((convert 29 54 (.slice (some ⟨B, off, none⟩) K cap)).run Tryd.prog w = .ok (.string (strOf (m.take K))) w) :=
      conv_mask w _ K cap (m.take K) (by rw [List.length_take]; omega) (.inr ⟨B, off, rfl, fun j v hj => hc j v (by rw [List.getElem?_take] at hj; split at hj; exact hj; cases hj)⟩)
    have HE : Hid (KeepPost (cn : Int) m w (.returned (.string (strOf (m.take K)))) w) := by
      refine ⟨_, rfl, ⟨m.take K, strOf_is _, ?_, ?_⟩, rfl⟩
      · intro e
        have h3 : (m.take K).length = 0 := by rw [e]; rfl
        rw [List.length_take] at h3
        omega
      · intro i hi
        rw [hK, ← hm]
        exact take_bits m (cn * 32) i (by omega)
    have hconv := HC.out
    clear hb hc hm
    generalize strOf (m.take K) = SS at *
    by_cases hc : (cn : Int) * 32 < (n : Int)
    · obtain rfl : K = cn * 32 := by omega
      have t1 : ((cn : Int) * 32).toNat = cn * 32 := by omega
      have i4 : (0 : Int) ≤ (cn : Int) * 32 := by omega
      have i5 : (cn : Int) * 32 ≤ (cap : Int) := by omega
      clear hK hmin
      go_enter Tryd.func19, Tryd.ntmps19
      go_wp2
      go_ret
      exact HE.out
    · obtain rfl : K = n := by omega
      have hc' : ¬ (cn : Int) * 32 < (K : Int) := hc
      clear hK hmin hc
      go_enter Tryd.func19, Tryd.ntmps19
      go_wp2
      go_ret
      exact HE.out

def CutPost (F : RF) (s : RS) (n : Int) (m : List By) (w : World) (e : Ending) (w' : World) : Prop := e = .returned (.tuple #[]) ∧ (∃ S', CAt w' F { s with wait := max (-1) n, mask := m } S') ∧ SameBut F.g w w'

set_option maxHeartbeats 2000000 in
set_option maxRecDepth 100000 in
theorem ccut_any (F : RF) (s : RS) (S : ByteArray) (n : Int) (ao : Option Addr) (len cap : Nat) (m : List By) (hm : m.length = len) (w : World) (h : CAt w F s S) (hb : IsB w ao m) (hbg : m = [] ∨ ∀ B off, ao = some ⟨B, off, none⟩ → B ≠ F.g) (hcap : len ≤ cap) (hl : len ≤ 140737488355328) (hn : n < 9223372036854775808) :
    Calls Tryd.prog 6 #[.pointer (some ⟨F.g, 0, none⟩), .int .i64 n, .slice ao len cap] w (CutPost F s n m w) := by
  have c12 := h.cWaits
  have c13 := h.cAhead
  have c14 := h.cMask
  have c0 := h.cCells
  have f12 := h.row.frozen 12
  have f13 := h.row.frozen 13
  have f14 := h.row.frozen 14
  have hc1 := h.ok.c1
  have hc2 := h.ok.c2
  have r1 := ((h.row.set 12 (.bool false)).set 13 (.int .i64 0)).set 14 (.string ⟨#[]⟩)
  rw [ccells_cut s F S false 0 ⟨#[]⟩ { s with wait := -1, mask := m } rfl rfl rfl rfl rfl rfl rfl rfl] at r1
  have s1 := ((SameBut.setCell F.g 12 (.bool false) w).trans (SameBut.setCell F.g 13 (.int .i64 0) _)).trans (SameBut.setCell F.g 14 (.string ⟨#[]⟩) _)
  by_cases h0 : 0 ≤ n
  · obtain ⟨nn, rfl⟩ := Int.eq_ofNat_of_zero_le h0
    have HKE : Hid (∀ W, SameBut F.g w W → Calls Tryd.prog 19 #[.slice ao len cap, .int .i64 s.c.cells] W (KeepPost s.c.cells m W)) := by
      intro W sb
      refine ckeep_any ao len cap m hm W ?_ hcap hl s.c.cells hc1 hc2
      rcases hb with e | ⟨B, off, rfl, hc⟩
      · exact .inl e
      · by_cases he : m = []
        · exact .inl he
        · refine .inr ⟨B, off, rfl, fun j v hj => ?_⟩
          have hne : B ≠ F.g := by
            rcases hbg with e | e
            · exact absurd e he
            · exact e B off rfl
          have h1 := hc j v hj
          rw [← h1]
          exact World.cell?_of_block (sb.block B hne)
    have HEND : Hid (∀ W T, SameBut F.g w W → MskIs s.c.cells m T → Row W F.g 58 (({ s with wait := (nn : Int), mask := m } : RS).ccells F T) → CutPost F s (nn : Int) m w (.returned (.tuple #[])) W) := by
      intro W T sb hT hr
      refine ⟨rfl, ⟨T, ?_⟩, sb⟩
      have e : max (-1) (nn : Int) = (nn : Int) := by omega
      rw [e]
      exact h.struct sb hr rfl rfl rfl rfl (by show -1 ≤ (nn : Int); omega) (fun _ => hT)
    have HROW : Hid (∀ W T, Row W F.g 58 (({ s with wait := -1, mask := m } : RS).ccells F ⟨#[]⟩) → Row (((W.setCell ⟨F.g, 12, none⟩ (.bool true)).setCell ⟨F.g, 13, none⟩ (.int .i64 (nn : Int))).setCell ⟨F.g, 14, none⟩ (.string T)) F.g 58 (({ s with wait := (nn : Int), mask := m } : RS).ccells F T)) := by
      intro W T hr
      have := ((hr.set 12 (.bool true)).set 13 (.int .i64 (nn : Int))).set 14 (.string T)
      rw [ccells_cut { s with wait := -1, mask := m } F ⟨#[]⟩ true (nn : Int) T { s with wait := (nn : Int), mask := m } rfl rfl rfl rfl rfl rfl (by show decide ((0 : Int) ≤ (nn : Int)) = true; simp) (by show (((nn : Int).toNat : Nat) : Int) = _; omega)] at this
      exact this
    have e1 : decide ((0 : Int) ≤ (nn : Int)) = true := by simp
    clear hb hbg hm h h0
    go_enter Tryd.func6, Tryd.ntmps6
    go_wp2_with (refine (HKE.out _ s1).mono ?_; rintro e w3 ⟨T, rfl, hT, rfl⟩)
    go_end0
    have s2 := ((s1.trans (SameBut.setCell F.g 12 (.bool true) _)).trans (SameBut.setCell F.g 13 (.int .i64 (nn : Int)) _)).trans (SameBut.setCell F.g 14 (.string T) _)
    exact HEND.out _ T s2 hT (HROW.out _ T r1)
  · have e1 : decide ((0 : Int) ≤ n) = false := by simpa using h0
    have HEND : Hid (CutPost F s n m w (.returned (.tuple #[])) (((w.setCell ⟨F.g, 12, none⟩ (.bool false)).setCell ⟨F.g, 13, none⟩ (.int .i64 0)).setCell ⟨F.g, 14, none⟩ (.string ⟨#[]⟩))) := by
      refine ⟨rfl, ⟨⟨#[]⟩, ?_⟩, s1⟩
      have e : max (-1) n = -1 := by omega
      rw [e]
      exact h.struct s1 r1 rfl rfl rfl rfl (by show (-1 : Int) ≤ -1; decide) (fun hh => absurd hh (by show ¬ (0 : Int) ≤ -1; decide))
    clear hb hbg hm h
    go_enter Tryd.func6, Tryd.ntmps6
    go_wp2
    go_end0
    exact HEND.out
end Go.Proofs.YtcpdanjbnijoiaaDoor


/-! The code's chip: Blow, Config, blank. -/
namespace Go.Proofs.YtcpdanjbnijoiaaDoor
open Go.RowKit

theorem and_one (b : By) : decide (b &&& 1#8 = 1#8) = (bits .and .u8 (b.toNat : Int) 1 == 1) := by
  revert b; decide +kernel

end Go.Proofs.YtcpdanjbnijoiaaDoor
