
import Derived.Test.YtnpbgfnahkmhoaaDoorMRefOf
import Derived.Test.YtnpbgfnahkmhoaaDoorI11Math
import Derived.Test.YtnpbgfnahkmhoaaDoorI11Mem
/-! The reference's images: four, Cover, May, Tagged, Make. -/
namespace Go.Proofs.YtnpbgfnahkmhoaaDoor
open Go.RowKit

theorem by0 (n : Nat) : (n : Int) % 256 = ((BitVec.ofNat 8 n).toNat : Int) := by rw [BitVec.toNat_ofNat]; omega
theorem by1 (n d : Nat) : (n : Int) / (d : Int) % 256 = ((BitVec.ofNat 8 (n / d)).toNat : Int) := by rw [BitVec.toNat_ofNat]; omega
theorem by3 (n : Nat) (h : n < 4294967296) : (n : Int) / 16777216 = ((BitVec.ofNat 8 (n / 16777216)).toNat : Int) := by rw [BitVec.toNat_ofNat]; omega

set_option maxHeartbeats 1000000 in
set_option maxRecDepth 100000 in
theorem four_any (N : Nat) (a0 : World) (ao : Option Addr) (nD cap n : Nat) (m : List By) (hD : m.length = nD) (w : World) (hown : Own N w (.slice ao nD cap) m) (hbel : Below N a0 w) (hn : n < 4294967296) (hl : nD ≤ 1000000) :
    Calls Tryd.prog 41 #[.slice ao nD cap, .int .i64 n] w fun e w' => ∃ ao' c', e = .returned (.slice ao' (nD + 4) c') ∧ Own N w' (.slice ao' (nD + 4) c') (m ++ le4 n) ∧ Below N a0 w' := by
  have y0 := by0 n
  have y1 := by1 n 256
  have y2 := by1 n 65536
  have y3 := by3 n hn
  have HL : Hid (le4 n = [BitVec.ofNat 8 n] ++ [BitVec.ofNat 8 (n / 256)] ++ [BitVec.ofNat 8 (n / 65536)] ++ [BitVec.ofNat 8 (n / 16777216)]) := rfl
  generalize BitVec.ofNat 8 n = z0 at *
  generalize BitVec.ofNat 8 (n / 256) = z1 at *
  generalize BitVec.ofNat 8 (n / 65536) = z2 at *
  generalize BitVec.ofNat 8 (n / 16777216) = z3 at *
  go_enter Tryd.func41, Tryd.ntmps41
  go_wp2
  refine wp_loop_rounds 5 ?_
  rw [rounds_succ]
  go_wp2_with (at_builtin; refine wpList_append_one rfl (.tmp 10) (.tmp 16) rfl N _ a0 _ m z0 _ (by first | exact y0 | simp) _ rfl rfl rfl hown hbel nD hD (by omega) ?_; intro g1 c1 w1 ho1 hb1)
  clear hown hbel
  rw [rounds_succ]
  go_wp2_with (at_builtin; refine wpList_append_one rfl (.tmp 10) (.tmp 16) rfl N _ a0 _ (m ++ [z0]) z1 _ (by first | exact y1 | simpa using y1) _ rfl rfl rfl ho1 hb1 (nD + 1) (by simp [hD]) (by omega) ?_; intro g2 c2 w2 ho2 hb2)
  clear ho1 hb1
  rw [rounds_succ]
  go_wp2_with (at_builtin; refine wpList_append_one rfl (.tmp 10) (.tmp 16) rfl N _ a0 _ (m ++ [z0] ++ [z1]) z2 _ (by first | exact y2 | simpa using y2) _ rfl rfl rfl ho2 hb2 (nD + 1 + 1) (by simp [hD]) (by omega) ?_; intro g3 c3 w3 ho3 hb3)
  clear ho2 hb2
  rw [rounds_succ]
  go_wp2_with (at_builtin; refine wpList_append_one rfl (.tmp 10) (.tmp 16) rfl N _ a0 _ (m ++ [z0] ++ [z1] ++ [z2]) z3 _ (by first | exact y3 | simp) _ rfl rfl rfl ho3 hb3 (nD + 1 + 1 + 1) (by simp [hD]) (by omega) ?_; intro g4 c4 w4 ho4 hb4)
  rw [rounds_succ]
  go_wp2
  go_ret
  refine ⟨_, c4, rfl, ?_, hb4⟩
  rw [HL.out]
  simpa using ho4

/-- An image's cells. -/
def imgC (s k v : Int) (pl : Value) (t : List By) : List Value := [.int .i64 s, .int .i64 k, .int .i64 v, pl] ++ t.map B8
theorem imgC_len (s k v : Int) (pl : Value) (t : List By) (ht : t.length = 32) : (imgC s k v pl t).length = 36 := by simp [imgC, ht]
/-- May there be such an image? -/
def may (s k v : Int) (n : Nat) : Int := if s < 0 ∨ 7 < s ∨ k < 0 ∨ 63 < k ∨ v < 0 ∨ 4294967295 < v then 2 else if 524240 < n then 4 else 0

set_option maxHeartbeats 1000000 in
set_option maxRecDepth 100000 in
theorem may_any (s k v : Int) (ao : Option Addr) (n cap : Nat) (t : List By) (w : World) :
    Calls Tryd.prog 26 #[.agg (imgC s k v (.slice ao n cap) t).toArray] w fun e w' => e = .returned (.int .i64 (may s k v n)) ∧ Below w.heap.size w w' := by
  have r0 := Row.at w 27 (imgC s k v (.slice ao n cap) t) _ _ rfl rfl
  have c0 := r0.cell 0 _ rfl
  have c1 := r0.cell 1 _ rfl
  have c2 := r0.cell 2 _ rfl
  have c3 := r0.cell 3 _ rfl
  clear r0
  generalize hi : imgC s k v (.slice ao n cap) t = IM at *
  clear hi
  go_enter Tryd.func26, Tryd.ntmps26
  go_wp2
  all_goals
    go_ret
    refine ⟨?_, (Below.refl _ _).alloc (Nat.le_refl _) _⟩
    congr 2
    unfold may
    first
      | (rw [if_pos (by omega)]; rfl)
      | (rw [if_neg (by omega), if_pos (by omega)]; rfl)
      | (rw [if_neg (by omega), if_neg (by omega)]; rfl)

theorem Own.drew {N : Nat} {w : World} {v : Value} {m : List By} (h : Own N w v m) : Own N w.drew v m := h

set_option maxHeartbeats 1000000 in
set_option maxRecDepth 100000 in
theorem cover_any (s k v : Nat) (ao : Option Addr) (n cap : Nat) (p t : List By) (hp : p.length = n) (w : World) (hb : IsB w ao p) (hnil : ao = none → cap = 0) (hs : s < 8) (hk : k < 64) (hv : v < 4294967296) (hn : n ≤ 524240) :
    Calls Tryd.prog 27 #[.agg (imgC s k v (.slice ao n cap) t).toArray] w fun e w' => ∃ ao' c', e = .returned (.slice ao' (n + 16) c') ∧ Own w.heap.size w' (.slice ao' (n + 16) c') (cover s k v p) ∧ Below w.heap.size w w' := by
  have HP : Hid (p.length = n) := hp
  have HN : Hid (ao = none → cap = 0) := hnil
  have r0 := Row.at w 27 (imgC s k v (.slice ao n cap) t) _ _ rfl rfl
  have hb1 := fun o1 : Obj => hb.below ((Below.refl w.heap.size w).alloc (Nat.le_refl _) o1) (Nat.le_refl _)
  have IB : Hid (∀ W, Below (w.heap.size + 1) (w.alloc (.cells (imgC s k v (.slice ao n cap) t).toArray 27)) W → IsB W ao p) := fun W h => (hb1 _).below h (by simp)
  have HC : Hid (cover s k v p = [80#8, 67#8, 85#8, 76#8, 1#8, BitVec.ofNat 8 s, BitVec.ofNat 8 k, 0#8] ++ le4 v ++ le4 n ++ p) := by show _ = _; rw [← hp]; rfl
  generalize hi : imgC s k v (.slice ao n cap) t = IM at *
  have x0 : IM[0]? = some (.int .i64 s) := by rw [← hi]; rfl
  have x1 : IM[1]? = some (.int .i64 k) := by rw [← hi]; rfl
  have x2 : IM[2]? = some (.int .i64 v) := by rw [← hi]; rfl
  have x3 : IM[3]? = some (.slice ao n cap) := by rw [← hi]; rfl
  have X2 : Hid (IM[2]? = some (.int .i64 v)) := x2
  have X3 : Hid (IM[3]? = some (.slice ao n cap)) := x3
  have c0 := r0.cell 0 _ x0
  have c1 := r0.cell 1 _ x1
  have b1 : Below w.heap.size w (w.alloc (.cells IM.toArray 27)) := (Below.refl _ _).alloc (Nat.le_refl _) _
  have hz : (w.alloc (.cells IM.toArray 27)).heap.size = w.heap.size + 1 := by simp
  clear hi hb1 hb hp hnil x0 x1 x2 x3
  have ho : Own (w.heap.size + 1) ((w.alloc (.cells IM.toArray 27)).alloc (.cells #[.int .u8 80, .int .u8 67, .int .u8 85, .int .u8 76, .int .u8 1, .int .u8 s, .int .u8 k, .int .u8 0] 5)) (.slice (some ⟨w.heap.size + 1, 0, none⟩) 8 8) [80#8, 67#8, 85#8, 76#8, 1#8, BitVec.ofNat 8 s, BitVec.ofNat 8 k, 0#8] := by
    have := own_new (w.heap.size + 1) (w.alloc (.cells IM.toArray 27)) (by omega) [80#8, 67#8, 85#8, 76#8, 1#8, BitVec.ofNat 8 s, BitVec.ofNat 8 k, 0#8] _ rfl 8 rfl (by omega)
    rw [hz] at this
    have e1 : (s : Int) % 256 = s := by omega
    have e2 : (k : Int) % 256 = k := by omega
    simpa [B8, e1, e2] using this
  have b2 : Below (w.heap.size + 1) (w.alloc (.cells IM.toArray 27)) ((w.alloc (.cells IM.toArray 27)).alloc (.cells #[.int .u8 80, .int .u8 67, .int .u8 85, .int .u8 76, .int .u8 1, .int .u8 s, .int .u8 k, .int .u8 0] 5)) := (Below.refl _ _).alloc (by omega) _
  have c2 := (r0.below b2 (by omega)).cell 2 _ X2.out
  generalize BitVec.ofNat 8 s = bs at *
  generalize BitVec.ofNat 8 k = bk at *
  have F1 := four_any (w.heap.size + 1) _ _ 8 8 v [80#8, 67#8, 85#8, 76#8, 1#8, bs, bk, 0#8] rfl _ ho b2 hv (by omega)
  clear ho b2 hz
  go_enter Tryd.func27, Tryd.ntmps27
  go_wp2_with fail
  refine F1.mono ?_
  clear F1 c0 c1 c2
  rintro e w2 ⟨ao2, q2, rfl, ho2, hb2⟩
  have r2 := r0.below hb2 (by omega)
  have c3 := r2.cell 3 _ X3.out
  have F2 := four_any (w.heap.size + 1) _ ao2 12 q2 n _ (by simp [le4_len]) w2 ho2 hb2 (by omega) (by omega)
  clear ho2 hb2 r2
  go_wp2_with fail
  refine F2.mono ?_
  clear F2 c3
  rintro e w3 ⟨ao3, q3, rfl, ho3, hb3⟩
  have r3 := r0.below hb3 (by omega)
  have c4 := r3.cell 3 _ X3.out
  go_wp2_with (at_builtin; refine wpList_append_more rfl (.tmp 20) (.tmp 22) rfl (w.heap.size + 1) _ ao3 16 q3 _ rfl (by simp [le4_len]) ho3 hb3 ao n cap p rfl HP.out (IB.out _ hb3) HN.out (by omega) ?_; intro ao4 c5 w4 ho4 hb4)
  go_ret
  refine ⟨ao4, c5, by rw [Nat.add_comm n 16]; rfl, ?_, b1.trans (hb4.mono (by omega))⟩
  rw [Nat.add_comm n 16, HC.out]
  exact own_le ho4 (by omega)
end Go.Proofs.YtnpbgfnahkmhoaaDoor
