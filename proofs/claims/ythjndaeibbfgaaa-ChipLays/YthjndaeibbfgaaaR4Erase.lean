import Derived.Test.YthjndaeibbfgaaaR4Blow
/-! The reference's Erase. -/
namespace Go.Proofs.Ythjndaeibbfgaaa
open Go.RowKit

def eraseByte (cut : Bool) (m was : By) : By := if cut then was ||| m else 255#8
/-- Cell c of a page, erased: the mask goes on from cell to cell. -/
def eraseCell (cut : Bool) (mask : List By) (c : Nat) (was : List By) : List By := (List.range 32).map fun i => eraseByte cut (bitsAt mask (32 * c + i)) (was.getD i 0)
def erasePage (cut : Bool) (mask : List By) (pg : List (List By)) : List (List By) := pg.mapIdx fun c x => eraseCell cut mask c x
def RS.eraseE (s : RS) (p : Int) : Int := if s.at p 0 = 0 then (if s.c.erases ≤ s.erases.getD p.toNat 0 then 9 else if s.cut then 8 else 0) else s.at p 0
def RS.erase (s : RS) (p : Int) : RS := if s.at p 0 = 0 ∧ s.erases.getD p.toNat 0 < s.c.erases then
    { s.act with erases := s.erases.set p.toNat (s.erases.getD p.toNat 0 + 1), pages := s.pages.set p.toNat (erasePage s.cut s.mask (s.pages.getD p.toNat [])) } else s

theorem eraseCell_len (cut : Bool) (mask : List By) (c : Nat) (was : List By) : (eraseCell cut mask c was).length = 32 := by simp [eraseCell]
theorem eraseCell_get (cut : Bool) (mask : List By) (c : Nat) (was : List By) (k : Nat) (hk : k < 32) : (eraseCell cut mask c was).getD k 0 = eraseByte cut (bitsAt mask (32 * c + k)) (was.getD k 0) := by
  unfold eraseCell
  rw [List.getD_eq_getElem?_getD, List.getElem?_map, List.getElem?_range hk]; rfl

/-- The page with its first c cells erased; of cell c the first k bytes. -/
def erasing (cut : Bool) (mask : List By) (pg : List (List By)) (c : Nat) : List (List By) := (erasePage cut mask pg).take c ++ pg.drop c
theorem erasing_len (cut : Bool) (mask : List By) (pg : List (List By)) (c : Nat) (hc : c ≤ pg.length) : (erasing cut mask pg c).length = pg.length := by
  simp [erasing, erasePage]; omega
theorem erasing_get (cut : Bool) (mask : List By) (pg : List (List By)) (c : Nat) (hc : c < pg.length) : (erasing cut mask pg c).getD c [] = pg.getD c [] := by
  unfold erasing
  have hl : ((erasePage cut mask pg).take c).length = c := by simp [erasePage]; omega
  rw [List.getD_eq_getElem?_getD, List.getElem?_append_right (by omega), hl, Nat.sub_self, List.getElem?_drop, Nat.add_zero, List.getD_eq_getElem?_getD]
theorem erasing_set (cut : Bool) (mask : List By) (pg : List (List By)) (c : Nat) (hc : c < pg.length) : (erasing cut mask pg c).set c (eraseCell cut mask c (pg.getD c [])) = erasing cut mask pg (c + 1) := by
  unfold erasing
  have hl : ((erasePage cut mask pg).take c).length = c := by simp [erasePage]; omega
  have hg : (erasePage cut mask pg)[c]? = some (eraseCell cut mask c (pg.getD c [])) := by
    unfold erasePage
    rw [List.getElem?_mapIdx, List.getElem?_eq_getElem hc, List.getD_eq_getElem?_getD, List.getElem?_eq_getElem hc]; rfl
  rw [List.set_append_right _ _ (by omega), hl, Nat.sub_self, List.drop_eq_getElem_cons hc, List.set_cons_zero, List.take_add_one, hg, List.append_assoc]; rfl
end Go.Proofs.Ythjndaeibbfgaaa
