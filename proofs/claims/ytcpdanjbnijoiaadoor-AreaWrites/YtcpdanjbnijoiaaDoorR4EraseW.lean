import Derived.Test.YtcpdanjbnijoiaaDoorR4Set
import Derived.Test.YtcpdanjbnijoiaaDoorC4A
import Derived.Deep.RegionHeld3
import Derived.Deep.RegionLaw
import Derived.BigRegion

/-! The reference's Program. -/
namespace Go.Proofs.YtcpdanjbnijoiaaDoor
open Go.RowKit

theorem bv8_ofInt (x : By) : BitVec.ofInt 8 (x.toNat : Int) = x := by
  rw [BitVec.ofInt_natCast, BitVec.ofNat_toNat, BitVec.setWidth_eq]
theorem bits8_or (x y : By) : bits .or .u8 (x.toNat : Int) (y.toNat : Int) = ((x ||| y).toNat : Int) := by
  show IntKind.u8.wrap ((BitVec.ofInt 8 (x.toNat : Int) ||| BitVec.ofInt 8 (y.toNat : Int)).toNat : Int) = _
  rw [bv8_ofInt, bv8_ofInt, IntKind.wrap_u8']
  have := b8_lt (x ||| y)
  omega
theorem bits8_and (x y : By) : bits .and .u8 (x.toNat : Int) (y.toNat : Int) = ((x &&& y).toNat : Int) := by
  show IntKind.u8.wrap ((BitVec.ofInt 8 (x.toNat : Int) &&& BitVec.ofInt 8 (y.toNat : Int)).toNat : Int) = _
  rw [bv8_ofInt, bv8_ofInt, IntKind.wrap_u8']
  have := b8_lt (x &&& y)
  omega
theorem bits8_andNot (x y : By) : bits .andNot .u8 (x.toNat : Int) (y.toNat : Int) = ((x &&& ~~~y).toNat : Int) := by
  show IntKind.u8.wrap ((BitVec.ofInt 8 (x.toNat : Int) &&& ~~~(BitVec.ofInt 8 (y.toNat : Int))).toNat : Int) = _
  rw [bv8_ofInt, bv8_ofInt, IntKind.wrap_u8']
  have := b8_lt (x &&& ~~~y)
  omega

def progByte (cut : Bool) (m was x : By) : By := if cut then (was &&& ~~~m) ||| ((was &&& x) &&& m) else was &&& x
def progCell (cut : Bool) (mask was x : List By) : List By := (List.range 32).map fun i => progByte cut (bitsAt mask i) (was.getD i 0) (x.getD i 0)
def RS.program (s : RS) (p c : Int) (x : List By) : RS := if s.at p c = 0 then s.act.setCell p.toNat c.toNat (progCell s.cut s.mask (s.cell p.toNat c.toNat) x) else s
def RS.programE (s : RS) (p c : Int) : Int := if s.at p c = 0 then (if s.cut then 8 else 0) else s.at p c

/-- The first k of new bytes, old ones behind them. -/
def mixd (new was : List By) (k : Nat) : List By := new.take k ++ was.drop k
theorem mixd_set (new was : List By) (k : Nat) (hn : new.length = 32) (hw : was.length = 32) (hk : k < 32) : (mixd new was k).set k (new.getD k 0) = mixd new was (k + 1) := by
  unfold mixd
  have hl : (new.take k).length = k := by simp; omega
  rw [List.set_append_right _ _ (by omega), hl, Nat.sub_self, List.drop_eq_getElem_cons (by omega), List.set_cons_zero, List.take_add_one, List.getElem?_eq_getElem (by omega), List.getD_eq_getElem?_getD, List.getElem?_eq_getElem (by omega), List.append_assoc]; rfl
theorem progCell_len (cut : Bool) (mask was x : List By) : (progCell cut mask was x).length = 32 := by simp [progCell]
theorem progCell_get (cut : Bool) (mask was x : List By) (k : Nat) (hk : k < 32) : (progCell cut mask was x).getD k 0 = progByte cut (bitsAt mask k) (was.getD k 0) (x.getD k 0) := by
  unfold progCell
  rw [List.getD_eq_getElem?_getD, List.getElem?_map, List.getElem?_range hk]; rfl
theorem cell_setCell (s : RS) (p c : Nat) (x : List By) (hp : p < s.pages.length) (hc : c < (s.pages.getD p []).length) : (s.setCell p c x).cell p c = x := by
  unfold RS.cell
  rw [List.getD_eq_getElem?_getD (l := (s.setCell p c x).pages), setCell_pages, if_pos ⟨rfl, hp⟩, Option.getD_some, List.getD_eq_getElem?_getD, List.getElem?_set_self hc]; rfl
theorem setCell_setCell (s : RS) (p c : Nat) (x y : List By) (hp : p < s.pages.length) : (s.setCell p c x).setCell p c y = s.setCell p c y := by
  have e : (s.setCell p c x).pages.getD p [] = (s.pages.getD p []).set c x := by
    rw [List.getD_eq_getElem?_getD (l := (s.setCell p c x).pages), setCell_pages, if_pos ⟨rfl, hp⟩]; rfl
  unfold RS.setCell at e ⊢
  simp only at e ⊢
  rw [e, List.set_set, List.set_set]
theorem setCell_self (s : RS) (p c : Nat) (hp : p < s.pages.length) (hc : c < (s.pages.getD p []).length) : s.setCell p c (s.cell p c) = s := by
  have e1 : (s.pages.getD p []).set c (s.cell p c) = s.pages.getD p [] := by
    unfold RS.cell
    generalize s.pages.getD p [] = l at *
    rw [List.getD_eq_getElem?_getD, List.getElem?_eq_getElem hc]
    exact List.set_getElem_self hc
  have e2 : s.pages.set p (s.pages.getD p []) = s.pages := by
    rw [List.getD_eq_getElem?_getD, List.getElem?_eq_getElem hp]
    exact List.set_getElem_self hp
  unfold RS.setCell
  rw [e1, e2]

/-- A callee that only draws, met behind an earlier draw. -/
theorem quiet_sum {P : Program} {f : FuncId} {args : Array Value} {w : World} {k n : Nat} {v : Value}
    (h : Calls P f args (w.drewN (k + n)) fun e w' => e = .returned v ∧ ∃ m, w' = (w.drewN (k + n)).drewN m) : Calls P f args (w.drewN (k + n)) fun e w'' => e = .returned v ∧ ∃ m, w'' = w.drewN (k + m) :=
  h.mono fun _ _ ⟨he, m, hm⟩ => ⟨he, n + m, by rw [hm, World.drewN_drewN, Nat.add_assoc]⟩

end Go.Proofs.YtcpdanjbnijoiaaDoor


/-! The code's chip: act, lower, Program. -/
namespace Go.Proofs.YtcpdanjbnijoiaaDoor
open Go.RowKit

theorem ccells_cut (s : RS) (F : RF) (S : ByteArray) (b : Bool) (n : Int) (T : ByteArray) (s' : RS) (hc : s'.c = s.c) (hp : s'.pages = s.pages) (he : s'.erases = s.erases) (hb : s'.blown = s.blown) (hn : s'.n = s.n) (hg : s'.gone = s.gone) (h1 : decide (0 ≤ s'.wait) = b) (h2 : (s'.wait.toNat : Int) = n) :
    (((s.ccells F S).set 12 (.bool b)).set 13 (.int .i64 n)).set 14 (.string T) = s'.ccells F T := by
  unfold RS.ccells
  rw [hc, hp, he, hb, hn, hg, h1, h2]
  rfl
theorem ccells_ahead (s : RS) (F : RF) (S : ByteArray) (n : Int) (s' : RS) (hc : s'.c = s.c) (hp : s'.pages = s.pages) (he : s'.erases = s.erases) (hb : s'.blown = s.blown) (hn : s'.n = s.n) (hg : s'.gone = s.gone) (h1 : decide (0 ≤ s'.wait) = decide (0 ≤ s.wait)) (h2 : (s'.wait.toNat : Int) = n) :
    (s.ccells F S).set 13 (.int .i64 n) = s'.ccells F S := by
  unfold RS.ccells
  rw [hc, hp, he, hb, hn, hg, h1, h2]
  rfl

/-- A text of one byte. -/
theorem one_is (b : UInt8) (x : By) (h : b.toNat = x.toNat) : StrIs ⟨#[b]⟩ [x] := by
  refine ⟨rfl, fun i hi => ?_⟩
  have hi' : i < 1 := hi
  obtain rfl : i = 0 := by omega
  exact h
theorem bits_one (x : By) (i : Nat) : bitsAt [x] i = x := by
  unfold bitsAt
  rw [List.length_singleton, Nat.mod_one]; rfl

/-- What act hands out: a mask that says which of the bits change. -/
def ActM (s : RS) (M : ByteArray) : Prop := ∃ m, StrIs M m ∧ m ≠ [] ∧ ∀ i : Nat, (i : Int) < 32 * s.c.cells → bitsAt m i = if s.cut then bitsAt s.mask i else 255#8

def ActPost (F : RF) (s : RS) (w : World) (e : Ending) (w' : World) : Prop := ∃ M S', e = .returned (.tuple #[.string M, .int .i64 (if s.cut then 8 else 0)]) ∧ ActM s M ∧ CAt w' F s.act S' ∧ SameBut F.g w w'

set_option maxHeartbeats 2000000 in
set_option maxRecDepth 100000 in
theorem cact_any (F : RF) (s : RS) (S : ByteArray) (w : World) (h : CAt w F s S) (hn0 : 0 ≤ s.n) (hn : s.n < 4611686018427387904) (hw : s.wait < 9223372036854775808) :
    Calls Tryd.prog 46 #[.pointer (some ⟨F.g, 0, none⟩)] w (ActPost F s w) := by
  have c10 := h.cN
  have c12 := h.cWaits
  have c13 := h.cAhead
  have c14 := h.cMask
  have f10 := h.row.frozen 10
  have f11 := h.row.frozen 11
  have f12 := h.row.frozen 12
  have f13 := h.row.frozen 13
  have f14 := h.row.frozen 14
  have c11 := h.cGone
  have hwt := h.wt
  have j1 : IntKind.i64.wrap (s.n + 1) = s.n + 1 := i64_in _ (by omega) (by omega)
  have HN : Hid (s.n < 4611686018427387904) := hn
  have HW : Hid (s.wait < 9223372036854775808) := hw
  have r1 := h.row.set 10 (.int .i64 (s.n + 1))
  rw [ccells_n] at r1
  have s1 := SameBut.setCell F.g 10 (.int .i64 (s.n + 1)) w
  clear hn hw hn0
  by_cases h1 : 0 ≤ s.wait
  · have d1 : decide (0 ≤ s.wait) = true := by simpa using h1
    rw [d1] at c12
    obtain ⟨wn, hwn⟩ := Int.eq_ofNat_of_zero_le h1
    have hwt2 : s.wait.toNat = wn := by omega
    rw [hwt2] at c13
    have HM := h.msk h1
    by_cases h0 : wn = 0
    · subst h0
      have hcut : s.cut = true := by simp [RS.cut, hwn]
      have HCUT : Hid (s.cut = true) := hcut
      have r2 := (((r1.set 12 (.bool false)).set 13 (.int .i64 0)).set 14 (.string ⟨#[]⟩)).set 11 (.bool true)
      rw [ccells_cut { s with n := s.n + 1 } F S false 0 ⟨#[]⟩ { s with n := s.n + 1, wait := -1 } rfl rfl rfl rfl rfl rfl rfl rfl, ccells_gone] at r2
      have s2 := (((s1.trans (SameBut.setCell F.g 12 (.bool false) _)).trans (SameBut.setCell F.g 13 (.int .i64 0) _)).trans (SameBut.setCell F.g 14 (.string ⟨#[]⟩) _)).trans (SameBut.setCell F.g 11 (.bool true) _)
      have HACT : Hid (s.act = { { s with n := s.n + 1, wait := -1 } with gone := true }) := by show _ = _; simp [RS.act, hwn]
      have HA : Hid (ActM s S) := by
        obtain ⟨m, m1, m2, m3⟩ := HM
        exact ⟨m, m1, m2, fun i hi => by rw [m3 i hi, hcut, if_pos rfl]⟩
      have HH : Hid (CAt w F s S) := h
      clear h HM hcut hwn hwt2 h1 d1
      go_enter Tryd.func46, Tryd.ntmps46
      go_wp2
      go_ret2
      refine ⟨S, ⟨#[]⟩, by rw [HCUT.out]; rfl, HA.out, ?_, s2⟩
      refine HH.out.struct s2 (by rw [HACT.out]; exact r2) rfl rfl rfl rfl (by rw [HACT.out]; exact (by decide : (-1 : Int) ≤ -1)) (by rw [HACT.out]; intro hh; exact absurd hh (by show ¬ (0 : Int) ≤ -1; decide))
    · have hcut : s.cut = false := by simp [RS.cut]; omega
      have HCUT : Hid (s.cut = false) := hcut
      have e2 : decide ((0 : Int) < (wn : Int)) = true := by simp; omega
      have j2 : IntKind.i64.wrap ((wn : Int) - 1) = (wn : Int) - 1 := i64_in _ (by omega) (by have := HW.out; omega)
      have r2 := r1.set 13 (.int .i64 ((wn : Int) - 1))
      rw [ccells_ahead { s with n := s.n + 1 } F S ((wn : Int) - 1) { s with n := s.n + 1, wait := s.wait - 1 } rfl rfl rfl rfl rfl rfl (by show decide (0 ≤ s.wait - 1) = decide (0 ≤ s.wait); rw [d1, decide_eq_true_iff]; omega) (by show (((s.wait - 1).toNat : Nat) : Int) = _; omega)] at r2
      have s2 := s1.trans (SameBut.setCell F.g 13 (.int .i64 ((wn : Int) - 1)) _)
      have HACT : Hid (s.act = { s with n := s.n + 1, wait := s.wait - 1 }) := by
        show _ = _
        unfold RS.act
        rw [if_neg (by omega), if_neg (by omega), if_pos (by omega)]
      have HA : Hid (ActM s ⟨#[255]⟩) := ⟨[255#8], one_is _ _ rfl, by simp, fun i _ => by rw [bits_one, hcut]; rfl⟩
      have HH : Hid (CAt w F s S) := h
      have HX : Hid (-1 ≤ s.wait - 1) := by show _ ≤ _; omega
      clear h hcut hwn hwt2 h1 d1
      go_enter Tryd.func46, Tryd.ntmps46
      go_wp2
      go_ret2
      refine ⟨⟨#[255]⟩, S, by rw [HCUT.out]; rfl, HA.out, ?_, s2⟩
      exact HH.out.struct s2 (by rw [HACT.out]; exact r2) rfl rfl rfl rfl (by rw [HACT.out]; exact HX.out) (by rw [HACT.out]; intro _; exact HM)
  · have d1 : decide (0 ≤ s.wait) = false := by simpa using h1
    rw [d1] at c12
    have hcut : s.cut = false := by simp [RS.cut]; omega
    have HCUT : Hid (s.cut = false) := hcut
    have HACT : Hid (s.act = { s with n := s.n + 1 }) := by
      show _ = _
      unfold RS.act
      rw [if_neg (by omega), if_neg (by omega), if_neg (by omega)]
    have HA : Hid (ActM s ⟨#[255]⟩) := ⟨[255#8], one_is _ _ rfl, by simp, fun i _ => by rw [bits_one, hcut]; rfl⟩
    have HH : Hid (CAt w F s S) := h
    have H1 : Hid (¬ 0 ≤ s.wait) := h1
    clear h hcut h1 d1
    go_enter Tryd.func46, Tryd.ntmps46
    go_wp2
    go_ret2
    refine ⟨⟨#[255]⟩, S, by rw [HCUT.out]; rfl, HA.out, ?_, s1⟩
    exact HH.out.struct s1 (by rw [HACT.out]; exact r1) rfl rfl rfl rfl (by rw [HACT.out]; exact hwt) (by rw [HACT.out]; intro hh; exact absurd hh (Int.not_le.2 H1.out))
end Go.Proofs.YtcpdanjbnijoiaaDoor


/-! The reference's Blow. -/
namespace Go.Proofs.YtcpdanjbnijoiaaDoor
open Go.RowKit

def RS.blowB (s : RS) (i : Nat) : Bool := s.blown.getD i false || (!s.cut || decide (bitsAt s.mask 0 &&& 1#8 = 1#8))
def RS.blow (s : RS) (i : Int) : RS := if s.fuse i = 0 then { s.act with blown := s.blown.set i.toNat (s.blowB i.toNat) } else s
def RS.blowE (s : RS) (i : Int) : Int := if s.fuse i = 0 then (if s.cut then 8 else 0) else s.fuse i
theorem fuse_zero {s : RS} {i : Int} (h : s.fuse i = 0) : s.gone = false ∧ 0 ≤ i ∧ i < (s.blown.length : Int) := by
  unfold RS.fuse at h
  split at h
  · omega
  · rename_i hg
    split at h
    · omega
    · exact ⟨by simpa using hg, by omega, by omega⟩

end Go.Proofs.YtcpdanjbnijoiaaDoor


/-! The reference's Erase. -/
namespace Go.Proofs.YtcpdanjbnijoiaaDoor
open Go.RowKit

def eraseByte (cut : Bool) (m was : By) : By := if cut then was ||| m else 255#8
/-- Cell c of a page, erased: the mask goes on from cell to cell. -/
def eraseCell (cut : Bool) (mask : List By) (c : Nat) (was : List By) : List By := (List.range 32).map fun i => eraseByte cut (bitsAt mask (32 * c + i)) (was.getD i 0)
def erasePage (cut : Bool) (mask : List By) (pg : List (List By)) : List (List By) := pg.mapIdx fun c x => eraseCell cut mask c x
def RS.eraseE (s : RS) (p : Int) : Int := if s.at p 0 = 0 then (if s.c.erases ≤ s.erases.getD p.toNat 0 then 9 else if s.cut then 8 else 0) else s.at p 0
def RS.erase (s : RS) (p : Int) : RS := if s.at p 0 = 0 ∧ s.erases.getD p.toNat 0 < s.c.erases then
    { s.act with erases := s.erases.set p.toNat (s.erases.getD p.toNat 0 + 1), pages := s.pages.set p.toNat (erasePage s.cut s.mask (s.pages.getD p.toNat [])) } else s

theorem eraseCell_len (cut : Bool) (mask : List By) (c : Nat) (was : List By) : (eraseCell cut mask c was).length = 32 := by simp [eraseCell]
theorem eraseCell_get (cut : Bool) (mask : List By) (c : Nat) (was : List By) (k : Nat) (hk : k < 32) : (eraseCell cut mask c was).getD k 0 = eraseByte cut (bitsAt mask (32 * c + k)) (was.getD k 0) := by
  unfold eraseCell
  rw [List.getD_eq_getElem?_getD, List.getElem?_map, List.getElem?_range hk]; rfl

/-- The page with its first c cells erased; of cell c the first k bytes. -/
def erasing (cut : Bool) (mask : List By) (pg : List (List By)) (c : Nat) : List (List By) := (erasePage cut mask pg).take c ++ pg.drop c
theorem erasing_len (cut : Bool) (mask : List By) (pg : List (List By)) (c : Nat) (hc : c ≤ pg.length) : (erasing cut mask pg c).length = pg.length := by
  simp [erasing, erasePage]; omega
theorem erasing_get (cut : Bool) (mask : List By) (pg : List (List By)) (c : Nat) (hc : c < pg.length) : (erasing cut mask pg c).getD c [] = pg.getD c [] := by
  unfold erasing
  have hl : ((erasePage cut mask pg).take c).length = c := by simp [erasePage]; omega
  rw [List.getD_eq_getElem?_getD, List.getElem?_append_right (by omega), hl, Nat.sub_self, List.getElem?_drop, Nat.add_zero, List.getD_eq_getElem?_getD]
theorem erasing_set (cut : Bool) (mask : List By) (pg : List (List By)) (c : Nat) (hc : c < pg.length) : (erasing cut mask pg c).set c (eraseCell cut mask c (pg.getD c [])) = erasing cut mask pg (c + 1) := by
  unfold erasing
  have hl : ((erasePage cut mask pg).take c).length = c := by simp [erasePage]; omega
  have hg : (erasePage cut mask pg)[c]? = some (eraseCell cut mask c (pg.getD c [])) := by
    unfold erasePage
    rw [List.getElem?_mapIdx, List.getElem?_eq_getElem hc, List.getD_eq_getElem?_getD, List.getElem?_eq_getElem hc]; rfl
  rw [List.set_append_right _ _ (by omega), hl, Nat.sub_self, List.drop_eq_getElem_cons hc, List.set_cons_zero, List.take_add_one, hg, List.append_assoc]; rfl
end Go.Proofs.YtcpdanjbnijoiaaDoor


namespace Go.Proofs.YtcpdanjbnijoiaaDoor
open Go.RowKit

/-- Behind the count, the first k cells of page p erased. -/
def RS.eraSt (s : RS) (p k : Nat) : RS := { s.act with erases := s.erases.set p (s.erases.getD p 0 + 1), pages := s.pages.set p (erasing s.cut s.mask (s.pages.getD p []) k) }
theorem eraSt_pg (s : RS) (p k : Nat) (hp : p < s.pages.length) : (s.eraSt p k).pages.getD p [] = erasing s.cut s.mask (s.pages.getD p []) k := by
  unfold RS.eraSt
  rw [List.getD_eq_getElem?_getD]
  simp only [List.getElem?_set_self hp]; rfl
theorem eraSt_cell (s : RS) (p k : Nat) (hp : p < s.pages.length) (hk : k < (s.pages.getD p []).length) : (s.eraSt p k).cell p k = (s.pages.getD p []).getD k [] := by
  unfold RS.cell
  rw [eraSt_pg s p k hp, erasing_get _ _ _ _ hk]
theorem eraSt_step (s : RS) (p k : Nat) (hp : p < s.pages.length) (hk : k < (s.pages.getD p []).length) : (s.eraSt p k).setCell p k (eraseCell s.cut s.mask k ((s.pages.getD p []).getD k [])) = s.eraSt p (k + 1) := by
  unfold RS.setCell
  rw [eraSt_pg s p k hp, erasing_set _ _ _ _ hk]
  unfold RS.eraSt
  simp only [List.set_set]
theorem eraSt_zero (s : RS) (p : Nat) (hp : p < s.pages.length) : s.eraSt p 0 = { s.act with erases := s.erases.set p (s.erases.getD p 0 + 1) } := by
  have e2 : s.pages.set p (s.pages.getD p []) = s.pages := by
    rw [List.getD_eq_getElem?_getD, List.getElem?_eq_getElem hp]
    exact List.set_getElem_self hp
  unfold RS.eraSt erasing
  rw [List.take_zero, List.drop_zero, List.nil_append, e2]; rfl
theorem eraSt_end (s : RS) (p : Nat) : s.eraSt p (s.pages.getD p []).length = { s.act with erases := s.erases.set p (s.erases.getD p 0 + 1), pages := s.pages.set p (erasePage s.cut s.mask (s.pages.getD p [])) } := by
  unfold RS.eraSt erasing
  rw [List.take_of_length_le (by simp [erasePage]), List.drop_length, List.append_nil]
theorem mixd_get (new was : List By) (k : Nat) (hn : new.length = 32) (hk : k < 32) : (mixd new was k).getD k 0 = was.getD k 0 := by
  unfold mixd
  have hl : (new.take k).length = k := by simp; omega
  rw [List.getD_eq_getElem?_getD, List.getElem?_append_right (by omega), hl, Nat.sub_self, List.getElem?_drop, Nat.add_zero, List.getD_eq_getElem?_getD]
theorem mixd_zero (new was : List By) : mixd new was 0 = was := by simp [mixd]
theorem mixd_end (new was : List By) (hn : new.length = 32) (hw : was.length = 32) : mixd new was 32 = new := by
  unfold mixd
  rw [List.take_of_length_le (by omega), List.drop_eq_nil_of_le (by omega), List.append_nil]

end Go.Proofs.YtcpdanjbnijoiaaDoor
