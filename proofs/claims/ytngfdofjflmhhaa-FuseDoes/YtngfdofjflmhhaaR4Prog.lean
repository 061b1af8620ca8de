
import Derived.Test.YtngfdofjflmhhaaR4Set
/-! The reference's Program. -/
namespace Go.Proofs.Ytngfdofjflmhhaa
open Go.RowKit

theorem bv8_ofInt (x : By) : BitVec.ofInt 8 (x.toNat : Int) = x := by
  rw [BitVec.ofInt_natCast, BitVec.ofNat_toNat, BitVec.setWidth_eq]
theorem bits8_or (x y : By) : bits .or .u8 (x.toNat : Int) (y.toNat : Int) = ((x ||| y).toNat : Int) := by
  show IntKind.u8.wrap ((BitVec.ofInt 8 (x.toNat : Int) ||| BitVec.ofInt 8 (y.toNat : Int)).toNat : Int) = _
  rw [bv8_ofInt, bv8_ofInt, IntKind.wrap_u8']
  have := b8_lt (x ||| y)
  omega
theorem bits8_and (x y : By) : bits .and .u8 (x.toNat : Int) (y.toNat : Int) = ((x &&& y).toNat : Int) := by
  show IntKind.u8.wrap ((BitVec.ofInt 8 (x.toNat : Int) &&& BitVec.ofInt 8 (y.toNat : Int)).toNat : Int) = _
  rw [bv8_ofInt, bv8_ofInt, IntKind.wrap_u8']
  have := b8_lt (x &&& y)
  omega
theorem bits8_andNot (x y : By) : bits .andNot .u8 (x.toNat : Int) (y.toNat : Int) = ((x &&& ~~~y).toNat : Int) := by
  show IntKind.u8.wrap ((BitVec.ofInt 8 (x.toNat : Int) &&& ~~~(BitVec.ofInt 8 (y.toNat : Int))).toNat : Int) = _
  rw [bv8_ofInt, bv8_ofInt, IntKind.wrap_u8']
  have := b8_lt (x &&& ~~~y)
  omega

def progByte (cut : Bool) (m was x : By) : By := if cut then (was &&& ~~~m) ||| ((was &&& x) &&& m) else was &&& x
def progCell (cut : Bool) (mask was x : List By) : List By := (List.range 32).map fun i => progByte cut (bitsAt mask i) (was.getD i 0) (x.getD i 0)
def RS.program (s : RS) (p c : Int) (x : List By) : RS := if s.at p c = 0 then s.act.setCell p.toNat c.toNat (progCell s.cut s.mask (s.cell p.toNat c.toNat) x) else s
def RS.programE (s : RS) (p c : Int) : Int := if s.at p c = 0 then (if s.cut then 8 else 0) else s.at p c

/-- The first k of new bytes, old ones behind them. -/
def mixd (new was : List By) (k : Nat) : List By := new.take k ++ was.drop k
theorem mixd_set (new was : List By) (k : Nat) (hn : new.length = 32) (hw : was.length = 32) (hk : k < 32) : (mixd new was k).set k (new.getD k 0) = mixd new was (k + 1) := by
  unfold mixd
  have hl : (new.take k).length = k := by simp; omega
  rw [List.set_append_right _ _ (by omega), hl, Nat.sub_self, List.drop_eq_getElem_cons (by omega), List.set_cons_zero, List.take_add_one, List.getElem?_eq_getElem (by omega), List.getD_eq_getElem?_getD, List.getElem?_eq_getElem (by omega), List.append_assoc]; rfl
theorem progCell_len (cut : Bool) (mask was x : List By) : (progCell cut mask was x).length = 32 := by simp [progCell]
theorem progCell_get (cut : Bool) (mask was x : List By) (k : Nat) (hk : k < 32) : (progCell cut mask was x).getD k 0 = progByte cut (bitsAt mask k) (was.getD k 0) (x.getD k 0) := by
  unfold progCell
  rw [List.getD_eq_getElem?_getD, List.getElem?_map, List.getElem?_range hk]; rfl
theorem cell_setCell (s : RS) (p c : Nat) (x : List By) (hp : p < s.pages.length) (hc : c < (s.pages.getD p []).length) : (s.setCell p c x).cell p c = x := by
  unfold RS.cell
  rw [List.getD_eq_getElem?_getD (l := (s.setCell p c x).pages), setCell_pages, if_pos ⟨rfl, hp⟩, Option.getD_some, List.getD_eq_getElem?_getD, List.getElem?_set_self hc]; rfl
theorem setCell_setCell (s : RS) (p c : Nat) (x y : List By) (hp : p < s.pages.length) : (s.setCell p c x).setCell p c y = s.setCell p c y := by
  have e : (s.setCell p c x).pages.getD p [] = (s.pages.getD p []).set c x := by
    rw [List.getD_eq_getElem?_getD (l := (s.setCell p c x).pages), setCell_pages, if_pos ⟨rfl, hp⟩]; rfl
  unfold RS.setCell at e ⊢
  simp only at e ⊢
  rw [e, List.set_set, List.set_set]
theorem setCell_self (s : RS) (p c : Nat) (hp : p < s.pages.length) (hc : c < (s.pages.getD p []).length) : s.setCell p c (s.cell p c) = s := by
  have e1 : (s.pages.getD p []).set c (s.cell p c) = s.pages.getD p [] := by
    unfold RS.cell
    generalize s.pages.getD p [] = l at *
    rw [List.getD_eq_getElem?_getD, List.getElem?_eq_getElem hc]
    exact List.set_getElem_self hc
  have e2 : s.pages.set p (s.pages.getD p []) = s.pages := by
    rw [List.getD_eq_getElem?_getD, List.getElem?_eq_getElem hp]
    exact List.set_getElem_self hp
  unfold RS.setCell
  rw [e1, e2]

/-- A callee that only draws, met behind an earlier draw. -/
theorem quiet_sum {P : Program} {f : FuncId} {args : Array Value} {w : World} {k n : Nat} {v : Value}
    (h : Calls P f args (w.drewN (k + n)) fun e w' => e = .returned v ∧ ∃ m, w' = (w.drewN (k + n)).drewN m) : Calls P f args (w.drewN (k + n)) fun e w'' => e = .returned v ∧ ∃ m, w'' = w.drewN (k + m) :=
  h.mono fun _ _ ⟨he, m, hm⟩ => ⟨he, n + m, by rw [hm, World.drewN_drewN, Nat.add_assoc]⟩

end Go.Proofs.Ytngfdofjflmhhaa
