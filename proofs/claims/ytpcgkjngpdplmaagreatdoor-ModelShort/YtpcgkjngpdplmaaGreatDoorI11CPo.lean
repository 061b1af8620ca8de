
import Derived.Test.YtpcgkjngpdplmaaGreatDoorI11CP
/-! The code's Parse. (Printed by tools/gencparse11.py.) -/
namespace Go.Proofs.YtpcgkjngpdplmaaGreatDoor
open Go.RowKit
set_option linter.unusedVariables false

/-- What Parse answers where something is wrong. -/
def CWr (w : World) (e0 a0 : Int) (e : Ending) (w' : World) : Prop :=
  ∃ ao' c' g, e = .returned (.tuple #[.agg (imgC 0 0 0 (.slice ao' 0 c') (List.replicate 32 0)).toArray, .iface 155 (.pointer (some ⟨g, 0, none⟩))]) ∧ Own w.heap.size w' (.slice ao' 0 c') [] ∧ w.heap.size ≤ g ∧ Row w' g 167 [.int .i64 e0, .int .i64 a0] ∧ Below w.heap.size w w'

theorem CWr.mk' {w w1 w2 : World} {g : Nat} {E A : Int} (hg : w.heap.size + 1 ≤ g) (hr : Row w1 g 167 [.int .i64 E, .int .i64 A]) (hs : SameBut w.heap.size w1 w2) (hb : Below w.heap.size w w1) : CWr w E A (.returned (.tuple #[.agg zImg.toArray, .iface 155 (.pointer (some ⟨g, 0, none⟩))])) w2 :=
  ⟨none, 0, g, rfl, own_nil _ _ (by rw [hs.size]; exact hb.size), by omega, hr.but hs (by omega), hs.below hb (Nat.le_refl _)⟩

/-- While Parse reads. -/
structure CW (w : World) (ao : Option Addr) (b : List By) (W : World) : Prop where
  bel : Below w.heap.size w W
  img : Row W w.heap.size 110 zImg
  isb0 : IsB w ao b
theorem CW.isb {w W : World} {ao : Option Addr} {b : List By} (h : CW w ao b W) : IsB W ao b := h.isb0.below h.bel (Nat.le_refl _)
theorem CW.start (w : World) (ao : Option Addr) (b : List By) (hb : IsB w ao b) : CW w ao b (w.alloc (.cells zImg.toArray 110)) :=
  ⟨(Below.refl _ _).alloc (Nat.le_refl _) _, Row.at w 110 zImg _ _ rfl rfl, hb⟩
theorem CW.cell {w W : World} {ao : Option Addr} {b : List By} (h : CW w ao b W) (j : Nat) (hj : j < b.length) : ∃ B off, ao = some ⟨B, off, none⟩ ∧ W.cell? ⟨B, off + j, none⟩ = some (.int .u8 ((b.getD j 0).toNat : Int)) := by
  rcases h.isb with rfl | ⟨B, off, rfl, hc⟩
  · simp at hj
  · exact ⟨B, off, rfl, by rw [hc j b[j] (List.getElem?_eq_getElem hj), getD_lt hj]; rfl⟩
theorem CW.dropCells {w W : World} {B off : Nat} {b : List By} (h : CW w (some ⟨B, off, none⟩) b W) (k : Nat) : ∀ j v, (b.drop k)[j]? = some v → W.cell? ⟨B, off + k + j, none⟩ = some (B8 v) := by
  intro j v hj
  rw [List.getElem?_drop] at hj
  rcases h.isb with rfl | ⟨B', off', e, hc⟩
  · simp at hj
  · injection e with e; injection e with e1 e2
    subst e1 e2
    rw [Nat.add_assoc]; exact hc _ _ hj
theorem CW.below {w W W2 : World} {ao : Option Addr} {b : List By} {N : Nat} (h : CW w ao b W) (hb : Below N W W2) (hN : w.heap.size + 1 ≤ N) : CW w ao b W2 :=
  ⟨h.bel.trans (hb.mono (by omega)), h.img.below hb (by omega), h.isb0⟩

set_option maxHeartbeats 1000000 in
set_option maxRecDepth 100000 in
theorem cparse_wrong (ao : Option Addr) (n cap : Nat) (b : List By) (hb0 : b.length = n) (w : World) (hb : IsB w ao b) (hnil : ao = none → cap = 0) (hcap : n ≤ cap) (hl : n ≤ 140737488351232) (e0 a0 : Nat) (h : parse b = .wrong e0 a0) :
    Calls Tryz.prog 86 #[.slice ao n cap] w fun e w' => ∃ ao' c' g, e = .returned (.tuple #[.agg (imgC 0 0 0 (.slice ao' 0 c') (List.replicate 32 0)).toArray, .iface 155 (.pointer (some ⟨g, 0, none⟩))]) ∧ Own w.heap.size w' (.slice ao' 0 c') [] ∧ w.heap.size ≤ g ∧ Row w' g 167 [.int .i64 e0, .int .i64 a0] ∧ Below w.heap.size w w' := by
  show Calls Tryz.prog 86 #[.slice ao n cap] w (CWr w e0 a0)
  have P0 := CW.start w ao b hb
  have hz : ∀ o, (w.alloc o).heap.size = w.heap.size + 1 := fun o => by simp
  have FH : Hid (∀ W, IsB W ao b → Calls Tryz.prog 96 #[.slice ao n cap] W (FW W e0 a0)) := fun W hW => first_wrong ao n cap b hb0 W hW hcap e0 a0 h
  clear hb hb0 hnil hcap hl h
  go_enter Tryz.func86, Tryz.ntmps86
  go_wp2_with fail
  refine (FH.out _ P0.isb).mono ?_
  rintro e w1 ⟨g, rfl, hg, hr, hb⟩
  rw [hz] at hg hb
  have PQ := P0.below hb (Nat.le_refl _)
  clear P0
  dsimp only
  go_wp2_with (refine wpList_store_Row rfl 110 _ _ rfl w.heap.size 110 0 zImg zImg PQ.img (Nat.le_refl _) rfl rfl (by kernel_rfl) zImg_one ?_; intro w2 hr2 hs2)
  have q2 := row_whole hr2 (by simp)
  refine bodyPost_ret_by (results_rowtmp Tryz.results86 _ w2 w.heap.size 110 _ _ rfl q2 Tryz.underlying110 rfl (by kernel_rfl)) rfl (CWr.mk' hg hr hs2 PQ.bel)

theorem owns_ty {N e size : Nat} {w : World} {v : Value} {n : Nat} {xs : List Value} (h : w.ownsRow N e size v n xs) (B : Nat) (hB : v.ownBlock = some B) : ∃ cur, w.heap[B]? = some (.cells cur e (0, 0)) := by
  rcases h.2 with ⟨rfl, _⟩ | ⟨g, cap, cur, rfl, _, hg, _⟩
  · simp [Value.ownBlock] at hB
  · simp [Value.ownBlock] at hB; subst hB; exact ⟨_, hg⟩
/-- A row of bytes is no struct's block. -/
theorem Own.ne_row {N : Nat} {W : World} {ao : Option Addr} {n c G t : Nat} {m : List By} {cs : List Value} (h : Own N W (.slice ao n c) m) (hr : Row W G t cs) (ht : t ≠ 5) : ao ≠ some ⟨G, 0, none⟩ := by
  rintro rfl
  obtain ⟨cur, hc⟩ := owns_ty h.1 G rfl
  have := hc.symm.trans hr
  injection this with this
  injection this with _ e2
  exact ht e2.symm

def zT : List By := List.replicate 32 0
/-- While the image is put together: 'x33' the payload, 'x34' the struct's value, 'x6' its block. -/
structure CO (w W1 : World) (ao : Option Addr) (b : List By) (s k v X : Nat) (PB : List By) (x33 x34 x6 : Value) (l33 l34 l6 l19 : Bool) (W : World) : Prop where
  cw : CW w ao b W
  lo : w.heap.size + 1 ≤ W1.heap.size
  le : W1.heap.size ≤ W.heap.size
  o19 : l19 = true → l6 = true ∧ l34 = true
  o34 : l34 = true → l33 = true
  pl : l33 = true → ∃ ao' c', x33 = .slice ao' X c' ∧ Own W1.heap.size W (.slice ao' X c') PB
  bd : l34 = true → x34 = .agg (imgC s k v x33 zT).toArray
  im : l6 = true → ∃ G, x6 = .pointer (some ⟨G, 0, none⟩) ∧ W1.heap.size ≤ G ∧ (l19 = false → Row W G 110 zImg) ∧ (l19 = true → Row W G 110 (imgC s k v x33 zT))
section
variable {w W1 W W2 : World} {ao : Option Addr} {b : List By} {s k v X : Nat} {PB : List By} {x33 x34 x6 : Value} {l33 l34 l6 l19 : Bool}
theorem CO.app (h : CO w W1 ao b s k v X PB x33 x34 x6 l33 l34 l6 l19 W) (hl : l33 = false) {ao' : Option Addr} {c' : Nat} (ho : Own W.heap.size W2 (.slice ao' X c') PB) (hb : Below W.heap.size W W2) : CO w W1 ao b s k v X PB (.slice ao' X c') x34 x6 true l34 l6 l19 W2 := by
  have h34 : l34 = false := by cases h34 : l34 with | false => rfl | true => have := h.o34 h34; rw [hl] at this; cases this
  have h19 : l19 = false := by cases h19 : l19 with | false => rfl | true => have := (h.o19 h19).2; rw [h34] at this; cases this
  have hlo := h.lo
  have hle := h.le
  refine ⟨h.cw.below hb (by omega), hlo, Nat.le_trans hle hb.size, h.o19, fun _ => rfl, fun _ => ⟨ao', c', rfl, own_le ho hle⟩, fun e => (by rw [h34] at e; cases e), fun e => ?_⟩
  obtain ⟨G, rfl, h1, h2, h3⟩ := h.im e
  exact ⟨G, rfl, h1, fun e2 => (h2 e2).below hb (h2 e2).lt, fun e2 => (by rw [h19] at e2; cases e2)⟩
theorem CO.bld (h : CO w W1 ao b s k v X PB x33 x34 x6 l33 l34 l6 l19 W) (hl : l33 = true) : CO w W1 ao b s k v X PB x33 (.agg (imgC s k v x33 zT).toArray) x6 l33 true l6 l19 W :=
  ⟨h.cw, h.lo, h.le, fun e => ⟨(h.o19 e).1, rfl⟩, fun _ => hl, h.pl, fun _ => rfl, h.im⟩
theorem CO.mk6 (h : CO w W1 ao b s k v X PB x33 x34 x6 l33 l34 l6 l19 W) (hl : l6 = false) : CO w W1 ao b s k v X PB x33 x34 (.pointer (some ⟨W.heap.size, 0, none⟩)) l33 l34 true l19 (W.alloc (.cells zImg.toArray 110)) := by
  have h19 : l19 = false := by cases h19 : l19 with | false => rfl | true => have := (h.o19 h19).1; rw [hl] at this; cases this
  have hlo := h.lo
  have hle := h.le
  have hb := (Below.refl W.heap.size W).alloc (Nat.le_refl _) (.cells zImg.toArray 110)
  refine ⟨h.cw.below hb (by omega), hlo, Nat.le_trans hle hb.size, fun e => ⟨rfl, (h.o19 e).2⟩, h.o34, fun e => ?_, h.bd, fun _ => ⟨_, rfl, hle, fun _ => Row.at W 110 zImg _ _ rfl rfl, fun e2 => (by rw [h19] at e2; cases e2)⟩⟩
  obtain ⟨ao', c', h1, h2⟩ := h.pl e
  exact ⟨ao', c', h1, h2.keep hb⟩
theorem CO.st (h : CO w W1 ao b s k v X PB x33 x34 x6 l33 l34 l6 l19 W) (h6 : l6 = true) (h34 : l34 = true) {G : Nat} (hx : x6 = .pointer (some ⟨G, 0, none⟩)) (hG : W1.heap.size ≤ G) (hr0 : Row W G 110 zImg) (hr : Row W2 G 110 (imgC s k v x33 zT)) (hs : SameBut G W W2) : CO w W1 ao b s k v X PB x33 x34 x6 l33 l34 l6 true W2 := by
  have hlo := h.lo
  refine ⟨h.cw.below (hs.below (Below.refl (w.heap.size + 1) W) (by omega)) (Nat.le_refl _), hlo, by rw [hs.size]; exact h.le, fun _ => ⟨h6, h34⟩, h.o34, fun e => ?_, h.bd, fun _ => ⟨G, hx, hG, fun e2 => (by cases e2), fun _ => hr⟩⟩
  obtain ⟨ao', c', h1, h2⟩ := h.pl e
  exact ⟨ao', c', h1, h2.but hs (h2.ne_row hr0 (by decide))⟩
end

structure C5 (W1 : World) (w : World) (B off X cap : Nat) (aoP : Option Addr) (b : List By) (s k ve : Nat) (L : Nat → Bool) (x17 x18 x19 x20 x21 x22 x23 x24 x25 x26 x27 x28 x29 x30 x31 x32 x33 x34 x6 : Value) (W : World) : Prop where
  x : CO w W1 (some ⟨B, off, none⟩) b s k ve X ((b.drop 16).take X) x33 x34 x6 (L 16) (L 17) (L 18) (L 19) W
  p0 : L 0 = true → x17 = .slice (some ⟨B, off, none⟩) (X + 48) cap
  p1 : L 1 = true → x18 = .pointer (some ⟨B, off + 5, none⟩)
  p2 : L 2 = true → x19 = .int .u8 (s : Int)
  p3 : L 3 = true → x20 = .int .i64 (s : Int)
  p4 : L 4 = true → x21 = .slice (some ⟨B, off, none⟩) (X + 48) cap
  p5 : L 5 = true → x22 = .pointer (some ⟨B, off + 6, none⟩)
  p6 : L 6 = true → x23 = .int .u8 (k : Int)
  p7 : L 7 = true → x24 = .int .i64 (k : Int)
  p8 : L 8 = true → x25 = .slice (some ⟨B, off, none⟩) (X + 48) cap
  p9 : L 9 = true → x26 = .slice (some ⟨B, off + 8, none⟩) 4 (cap - 8)
  p10 : L 10 = true → x27 = .int .u64 (ve : Int)
  p11 : L 11 = true → x28 = .int .i64 (ve : Int)
  p12 : L 12 = true → x29 = .slice (some ⟨B, off, none⟩) (X + 48) cap
  p13 : L 13 = true → x30 = .int .i64 ((X : Int) + 16)
  p14 : L 14 = true → x31 = .int .i64 ((X : Int) + 16)
  p15 : L 15 = true → x32 = .slice aoP X X
section
variable {W1 : World} {w : World} {B off X cap : Nat} {aoP : Option Addr} {b : List By} {s k ve : Nat} {L : Nat → Bool} {x17 x18 x19 x20 x21 x22 x23 x24 x25 x26 x27 x28 x29 x30 x31 x32 x33 x34 x6 : Value} {W W2 : World}
theorem C5.s0 (h : C5 W1 w B off X cap aoP b s k ve L x17 x18 x19 x20 x21 x22 x23 x24 x25 x26 x27 x28 x29 x30 x31 x32 x33 x34 x6 W) : C5 W1 w B off X cap aoP b s k ve (upd L 0) (.slice (some ⟨B, off, none⟩) (X + 48) cap) x18 x19 x20 x21 x22 x23 x24 x25 x26 x27 x28 x29 x30 x31 x32 x33 x34 x6 W :=
  ⟨h.x, fun _ => rfl, h.p1, h.p2, h.p3, h.p4, h.p5, h.p6, h.p7, h.p8, h.p9, h.p10, h.p11, h.p12, h.p13, h.p14, h.p15⟩
theorem C5.s1 (h : C5 W1 w B off X cap aoP b s k ve L x17 x18 x19 x20 x21 x22 x23 x24 x25 x26 x27 x28 x29 x30 x31 x32 x33 x34 x6 W) : C5 W1 w B off X cap aoP b s k ve (upd L 1) x17 (.pointer (some ⟨B, off + 5, none⟩)) x19 x20 x21 x22 x23 x24 x25 x26 x27 x28 x29 x30 x31 x32 x33 x34 x6 W :=
  ⟨h.x, h.p0, fun _ => rfl, h.p2, h.p3, h.p4, h.p5, h.p6, h.p7, h.p8, h.p9, h.p10, h.p11, h.p12, h.p13, h.p14, h.p15⟩
theorem C5.s2 (h : C5 W1 w B off X cap aoP b s k ve L x17 x18 x19 x20 x21 x22 x23 x24 x25 x26 x27 x28 x29 x30 x31 x32 x33 x34 x6 W) : C5 W1 w B off X cap aoP b s k ve (upd L 2) x17 x18 (.int .u8 (s : Int)) x20 x21 x22 x23 x24 x25 x26 x27 x28 x29 x30 x31 x32 x33 x34 x6 W :=
  ⟨h.x, h.p0, h.p1, fun _ => rfl, h.p3, h.p4, h.p5, h.p6, h.p7, h.p8, h.p9, h.p10, h.p11, h.p12, h.p13, h.p14, h.p15⟩
theorem C5.s3 (h : C5 W1 w B off X cap aoP b s k ve L x17 x18 x19 x20 x21 x22 x23 x24 x25 x26 x27 x28 x29 x30 x31 x32 x33 x34 x6 W) : C5 W1 w B off X cap aoP b s k ve (upd L 3) x17 x18 x19 (.int .i64 (s : Int)) x21 x22 x23 x24 x25 x26 x27 x28 x29 x30 x31 x32 x33 x34 x6 W :=
  ⟨h.x, h.p0, h.p1, h.p2, fun _ => rfl, h.p4, h.p5, h.p6, h.p7, h.p8, h.p9, h.p10, h.p11, h.p12, h.p13, h.p14, h.p15⟩
theorem C5.s4 (h : C5 W1 w B off X cap aoP b s k ve L x17 x18 x19 x20 x21 x22 x23 x24 x25 x26 x27 x28 x29 x30 x31 x32 x33 x34 x6 W) : C5 W1 w B off X cap aoP b s k ve (upd L 4) x17 x18 x19 x20 (.slice (some ⟨B, off, none⟩) (X + 48) cap) x22 x23 x24 x25 x26 x27 x28 x29 x30 x31 x32 x33 x34 x6 W :=
  ⟨h.x, h.p0, h.p1, h.p2, h.p3, fun _ => rfl, h.p5, h.p6, h.p7, h.p8, h.p9, h.p10, h.p11, h.p12, h.p13, h.p14, h.p15⟩
theorem C5.s5 (h : C5 W1 w B off X cap aoP b s k ve L x17 x18 x19 x20 x21 x22 x23 x24 x25 x26 x27 x28 x29 x30 x31 x32 x33 x34 x6 W) : C5 W1 w B off X cap aoP b s k ve (upd L 5) x17 x18 x19 x20 x21 (.pointer (some ⟨B, off + 6, none⟩)) x23 x24 x25 x26 x27 x28 x29 x30 x31 x32 x33 x34 x6 W :=
  ⟨h.x, h.p0, h.p1, h.p2, h.p3, h.p4, fun _ => rfl, h.p6, h.p7, h.p8, h.p9, h.p10, h.p11, h.p12, h.p13, h.p14, h.p15⟩
theorem C5.s6 (h : C5 W1 w B off X cap aoP b s k ve L x17 x18 x19 x20 x21 x22 x23 x24 x25 x26 x27 x28 x29 x30 x31 x32 x33 x34 x6 W) : C5 W1 w B off X cap aoP b s k ve (upd L 6) x17 x18 x19 x20 x21 x22 (.int .u8 (k : Int)) x24 x25 x26 x27 x28 x29 x30 x31 x32 x33 x34 x6 W :=
  ⟨h.x, h.p0, h.p1, h.p2, h.p3, h.p4, h.p5, fun _ => rfl, h.p7, h.p8, h.p9, h.p10, h.p11, h.p12, h.p13, h.p14, h.p15⟩
theorem C5.s7 (h : C5 W1 w B off X cap aoP b s k ve L x17 x18 x19 x20 x21 x22 x23 x24 x25 x26 x27 x28 x29 x30 x31 x32 x33 x34 x6 W) : C5 W1 w B off X cap aoP b s k ve (upd L 7) x17 x18 x19 x20 x21 x22 x23 (.int .i64 (k : Int)) x25 x26 x27 x28 x29 x30 x31 x32 x33 x34 x6 W :=
  ⟨h.x, h.p0, h.p1, h.p2, h.p3, h.p4, h.p5, h.p6, fun _ => rfl, h.p8, h.p9, h.p10, h.p11, h.p12, h.p13, h.p14, h.p15⟩
theorem C5.s8 (h : C5 W1 w B off X cap aoP b s k ve L x17 x18 x19 x20 x21 x22 x23 x24 x25 x26 x27 x28 x29 x30 x31 x32 x33 x34 x6 W) : C5 W1 w B off X cap aoP b s k ve (upd L 8) x17 x18 x19 x20 x21 x22 x23 x24 (.slice (some ⟨B, off, none⟩) (X + 48) cap) x26 x27 x28 x29 x30 x31 x32 x33 x34 x6 W :=
  ⟨h.x, h.p0, h.p1, h.p2, h.p3, h.p4, h.p5, h.p6, h.p7, fun _ => rfl, h.p9, h.p10, h.p11, h.p12, h.p13, h.p14, h.p15⟩
theorem C5.s9 (h : C5 W1 w B off X cap aoP b s k ve L x17 x18 x19 x20 x21 x22 x23 x24 x25 x26 x27 x28 x29 x30 x31 x32 x33 x34 x6 W) : C5 W1 w B off X cap aoP b s k ve (upd L 9) x17 x18 x19 x20 x21 x22 x23 x24 x25 (.slice (some ⟨B, off + 8, none⟩) 4 (cap - 8)) x27 x28 x29 x30 x31 x32 x33 x34 x6 W :=
  ⟨h.x, h.p0, h.p1, h.p2, h.p3, h.p4, h.p5, h.p6, h.p7, h.p8, fun _ => rfl, h.p10, h.p11, h.p12, h.p13, h.p14, h.p15⟩
theorem C5.s10 (h : C5 W1 w B off X cap aoP b s k ve L x17 x18 x19 x20 x21 x22 x23 x24 x25 x26 x27 x28 x29 x30 x31 x32 x33 x34 x6 W) (hX : CO w W1 (some ⟨B, off, none⟩) b s k ve X ((b.drop 16).take X) x33 x34 x6 ((upd L 10) 16) ((upd L 10) 17) ((upd L 10) 18) ((upd L 10) 19) W2) : C5 W1 w B off X cap aoP b s k ve (upd L 10) x17 x18 x19 x20 x21 x22 x23 x24 x25 x26 (.int .u64 (ve : Int)) x28 x29 x30 x31 x32 x33 x34 x6 W2 :=
  ⟨hX, h.p0, h.p1, h.p2, h.p3, h.p4, h.p5, h.p6, h.p7, h.p8, h.p9, fun _ => rfl, h.p11, h.p12, h.p13, h.p14, h.p15⟩
theorem C5.s11 (h : C5 W1 w B off X cap aoP b s k ve L x17 x18 x19 x20 x21 x22 x23 x24 x25 x26 x27 x28 x29 x30 x31 x32 x33 x34 x6 W) : C5 W1 w B off X cap aoP b s k ve (upd L 11) x17 x18 x19 x20 x21 x22 x23 x24 x25 x26 x27 (.int .i64 (ve : Int)) x29 x30 x31 x32 x33 x34 x6 W :=
  ⟨h.x, h.p0, h.p1, h.p2, h.p3, h.p4, h.p5, h.p6, h.p7, h.p8, h.p9, h.p10, fun _ => rfl, h.p12, h.p13, h.p14, h.p15⟩
theorem C5.s12 (h : C5 W1 w B off X cap aoP b s k ve L x17 x18 x19 x20 x21 x22 x23 x24 x25 x26 x27 x28 x29 x30 x31 x32 x33 x34 x6 W) : C5 W1 w B off X cap aoP b s k ve (upd L 12) x17 x18 x19 x20 x21 x22 x23 x24 x25 x26 x27 x28 (.slice (some ⟨B, off, none⟩) (X + 48) cap) x30 x31 x32 x33 x34 x6 W :=
  ⟨h.x, h.p0, h.p1, h.p2, h.p3, h.p4, h.p5, h.p6, h.p7, h.p8, h.p9, h.p10, h.p11, fun _ => rfl, h.p13, h.p14, h.p15⟩
theorem C5.s13 (h : C5 W1 w B off X cap aoP b s k ve L x17 x18 x19 x20 x21 x22 x23 x24 x25 x26 x27 x28 x29 x30 x31 x32 x33 x34 x6 W) : C5 W1 w B off X cap aoP b s k ve (upd L 13) x17 x18 x19 x20 x21 x22 x23 x24 x25 x26 x27 x28 x29 (.int .i64 ((X : Int) + 16)) x31 x32 x33 x34 x6 W :=
  ⟨h.x, h.p0, h.p1, h.p2, h.p3, h.p4, h.p5, h.p6, h.p7, h.p8, h.p9, h.p10, h.p11, h.p12, fun _ => rfl, h.p14, h.p15⟩
theorem C5.s14 (h : C5 W1 w B off X cap aoP b s k ve L x17 x18 x19 x20 x21 x22 x23 x24 x25 x26 x27 x28 x29 x30 x31 x32 x33 x34 x6 W) : C5 W1 w B off X cap aoP b s k ve (upd L 14) x17 x18 x19 x20 x21 x22 x23 x24 x25 x26 x27 x28 x29 x30 (.int .i64 ((X : Int) + 16)) x32 x33 x34 x6 W :=
  ⟨h.x, h.p0, h.p1, h.p2, h.p3, h.p4, h.p5, h.p6, h.p7, h.p8, h.p9, h.p10, h.p11, h.p12, h.p13, fun _ => rfl, h.p15⟩
theorem C5.s15 (h : C5 W1 w B off X cap aoP b s k ve L x17 x18 x19 x20 x21 x22 x23 x24 x25 x26 x27 x28 x29 x30 x31 x32 x33 x34 x6 W) : C5 W1 w B off X cap aoP b s k ve (upd L 15) x17 x18 x19 x20 x21 x22 x23 x24 x25 x26 x27 x28 x29 x30 x31 (.slice aoP X X) x33 x34 x6 W :=
  ⟨h.x, h.p0, h.p1, h.p2, h.p3, h.p4, h.p5, h.p6, h.p7, h.p8, h.p9, h.p10, h.p11, h.p12, h.p13, h.p14, fun _ => rfl⟩
theorem C5.s16 (h : C5 W1 w B off X cap aoP b s k ve L x17 x18 x19 x20 x21 x22 x23 x24 x25 x26 x27 x28 x29 x30 x31 x32 x33 x34 x6 W) {v : Value} (hX : CO w W1 (some ⟨B, off, none⟩) b s k ve X ((b.drop 16).take X) v x34 x6 ((upd L 16) 16) ((upd L 16) 17) ((upd L 16) 18) ((upd L 16) 19) W2) : C5 W1 w B off X cap aoP b s k ve (upd L 16) x17 x18 x19 x20 x21 x22 x23 x24 x25 x26 x27 x28 x29 x30 x31 x32 v x34 x6 W2 :=
  ⟨hX, h.p0, h.p1, h.p2, h.p3, h.p4, h.p5, h.p6, h.p7, h.p8, h.p9, h.p10, h.p11, h.p12, h.p13, h.p14, h.p15⟩
theorem C5.s17 (h : C5 W1 w B off X cap aoP b s k ve L x17 x18 x19 x20 x21 x22 x23 x24 x25 x26 x27 x28 x29 x30 x31 x32 x33 x34 x6 W) {v : Value} (hX : CO w W1 (some ⟨B, off, none⟩) b s k ve X ((b.drop 16).take X) x33 v x6 ((upd L 17) 16) ((upd L 17) 17) ((upd L 17) 18) ((upd L 17) 19) W2) : C5 W1 w B off X cap aoP b s k ve (upd L 17) x17 x18 x19 x20 x21 x22 x23 x24 x25 x26 x27 x28 x29 x30 x31 x32 x33 v x6 W2 :=
  ⟨hX, h.p0, h.p1, h.p2, h.p3, h.p4, h.p5, h.p6, h.p7, h.p8, h.p9, h.p10, h.p11, h.p12, h.p13, h.p14, h.p15⟩
theorem C5.s18 (h : C5 W1 w B off X cap aoP b s k ve L x17 x18 x19 x20 x21 x22 x23 x24 x25 x26 x27 x28 x29 x30 x31 x32 x33 x34 x6 W) {v : Value} (hX : CO w W1 (some ⟨B, off, none⟩) b s k ve X ((b.drop 16).take X) x33 x34 v ((upd L 18) 16) ((upd L 18) 17) ((upd L 18) 18) ((upd L 18) 19) W2) : C5 W1 w B off X cap aoP b s k ve (upd L 18) x17 x18 x19 x20 x21 x22 x23 x24 x25 x26 x27 x28 x29 x30 x31 x32 x33 x34 v W2 :=
  ⟨hX, h.p0, h.p1, h.p2, h.p3, h.p4, h.p5, h.p6, h.p7, h.p8, h.p9, h.p10, h.p11, h.p12, h.p13, h.p14, h.p15⟩
theorem C5.s19 (h : C5 W1 w B off X cap aoP b s k ve L x17 x18 x19 x20 x21 x22 x23 x24 x25 x26 x27 x28 x29 x30 x31 x32 x33 x34 x6 W) (hX : CO w W1 (some ⟨B, off, none⟩) b s k ve X ((b.drop 16).take X) x33 x34 x6 ((upd L 19) 16) ((upd L 19) 17) ((upd L 19) 18) ((upd L 19) 19) W2) : C5 W1 w B off X cap aoP b s k ve (upd L 19) x17 x18 x19 x20 x21 x22 x23 x24 x25 x26 x27 x28 x29 x30 x31 x32 x33 x34 x6 W2 :=
  ⟨hX, h.p0, h.p1, h.p2, h.p3, h.p4, h.p5, h.p6, h.p7, h.p8, h.p9, h.p10, h.p11, h.p12, h.p13, h.p14, h.p15⟩
end
@[reducible] def IC5 (W1 : World) (w : World) (B off X cap : Nat) (aoP : Option Addr) (b : List By) (s k ve : Nat) (y0 y1 y2 y3 y4 y5 y7 y8 y9 y10 y11 y12 y13 y14 y15 y16 y35 y36 y37 y38 y39 y40 y41 : Value) : (Nat → Bool) → Act → World → Prop := fun L a W => ∃ x17 x18 x19 x20 x21 x22 x23 x24 x25 x26 x27 x28 x29 x30 x31 x32 x33 x34 x6, a = ⟨#[y0, y1, y2, y3, y4, y5, x6, y7, y8, y9, y10, y11, y12, y13, y14, y15, y16, x17, x18, x19, x20, x21, x22, x23, x24, x25, x26, x27, x28, x29, x30, x31, x32, x33, x34, y35, y36, y37, y38, y39, y40, y41], []⟩ ∧ C5 W1 w B off X cap aoP b s k ve L x17 x18 x19 x20 x21 x22 x23 x24 x25 x26 x27 x28 x29 x30 x31 x32 x33 x34 x6 W
theorem C5.step {W1 : World} {w : World} {B off X cap : Nat} {aoP : Option Addr} {b : List By} {s k ve : Nat} {y0 y1 y2 y3 y4 y5 y7 y8 y9 y10 y11 y12 y13 y14 y15 y16 y35 y36 y37 y38 y39 y40 y41 : Value} {P : Program} {ops : Array Oper} {Q : Exit → Act → World → Prop} {i : Nat} {o : Oper} (hq : ∀ x17 x18 x19 x20 x21 x22 x23 x24 x25 x26 x27 x28 x29 x30 x31 x32 x33 x34 x6 (L : Nat → Bool) (W : World), C5 W1 w B off X cap aoP b s k ve L x17 x18 x19 x20 x21 x22 x23 x24 x25 x26 x27 x28 x29 x30 x31 x32 x33 x34 x6 W → L i = false → (∀ j ∈ onesOf o, L j = true) → ∀ K : Act → World → Prop, Shut (∀ a' w', IC5 W1 w B off X cap aoP b s k ve y0 y1 y2 y3 y4 y5 y7 y8 y9 y10 y11 y12 y13 y14 y15 y16 y35 y36 y37 y38 y39 y40 y41 (upd L i) a' w' → K a' w') → if Region.wanted o (yielded ops (⟨#[y0, y1, y2, y3, y4, y5, x6, y7, y8, y9, y10, y11, y12, y13, y14, y15, y16, x17, x18, x19, x20, x21, x22, x23, x24, x25, x26, x27, x28, x29, x30, x31, x32, x33, x34, y35, y36, y37, y38, y39, y40, y41], []⟩ : Act).tmps) = true then Oper.wp P o ⟨#[y0, y1, y2, y3, y4, y5, x6, y7, y8, y9, y10, y11, y12, y13, y14, y15, y16, x17, x18, x19, x20, x21, x22, x23, x24, x25, x26, x27, x28, x29, x30, x31, x32, x33, x34, y35, y36, y37, y38, y39, y40, y41], []⟩ W K Q else K ((⟨#[y0, y1, y2, y3, y4, y5, x6, y7, y8, y9, y10, y11, y12, y13, y14, y15, y16, x17, x18, x19, x20, x21, x22, x23, x24, x25, x26, x27, x28, x29, x30, x31, x32, x33, x34, y35, y36, y37, y38, y39, y40, y41], []⟩ : Act).put o.dst undef) W) : StepI P ops (IC5 W1 w B off X cap aoP b s k ve y0 y1 y2 y3 y4 y5 y7 y8 y9 y10 y11 y12 y13 y14 y15 y16 y35 y36 y37 y38 y39 y40 y41) Q i o := by
  rintro L a W ⟨x17, x18, x19, x20, x21, x22, x23, x24, x25, x26, x27, x28, x29, x30, x31, x32, x33, x34, x6, rfl, h⟩
  exact hq _ _ _ _ _ _ _ _ _ _ _ _ _ _ _ _ _ _ _ _ _ h
theorem C5.ends {W1 : World} {w : World} {B off X cap : Nat} {aoP : Option Addr} {b : List By} {s k ve : Nat} {y0 y1 y2 y3 y4 y5 y7 y8 y9 y10 y11 y12 y13 y14 y15 y16 y35 y36 y37 y38 y39 y40 y41 : Value} {mm_ : Nat} {Q : Exit → Act → World → Prop} (hq : ∀ x17 x18 x19 x20 x21 x22 x23 x24 x25 x26 x27 x28 x29 x30 x31 x32 x33 x34 x6 (L : Nat → Bool) (W : World), (∀ j, j < mm_ → L j = true) → C5 W1 w B off X cap aoP b s k ve L x17 x18 x19 x20 x21 x22 x23 x24 x25 x26 x27 x28 x29 x30 x31 x32 x33 x34 x6 W → Q .normal ⟨#[y0, y1, y2, y3, y4, y5, x6, y7, y8, y9, y10, y11, y12, y13, y14, y15, y16, x17, x18, x19, x20, x21, x22, x23, x24, x25, x26, x27, x28, x29, x30, x31, x32, x33, x34, y35, y36, y37, y38, y39, y40, y41], []⟩ W) : ∀ L a' w', (∀ j, j < mm_ → L j = true) → IC5 W1 w B off X cap aoP b s k ve y0 y1 y2 y3 y4 y5 y7 y8 y9 y10 y11 y12 y13 y14 y15 y16 y35 y36 y37 y38 y39 y40 y41 L a' w' → Q .normal a' w' := by
  rintro L a W hall ⟨x17, x18, x19, x20, x21, x22, x23, x24, x25, x26, x27, x28, x29, x30, x31, x32, x33, x34, x6, rfl, h⟩
  exact hq _ _ _ _ _ _ _ _ _ _ _ _ _ _ _ _ _ _ _ _ _ hall h
set_option maxHeartbeats 2000000 in
set_option maxRecDepth 100000 in
theorem cparse_ok (ao : Option Addr) (n cap : Nat) (b : List By) (hb0 : b.length = n) (w : World) (hb : IsB w ao b) (hcap : n ≤ cap) (hn : n ≤ 524288) (hs : scan b 0 16 = none) (X : Nat) (hX : num4 (b.drop 12) = X) (hne : n = X + 48) (s k v : Nat) (h5 : (b.getD 5 0).toNat = s) (h6 : (b.getD 6 0).toNat = k) (h8 : num4 (b.drop 8) = v) :
    Calls Tryz.prog 86 #[.slice ao n cap] w fun e w' => ∃ ao' c', e = .returned (.tuple #[.agg (imgC s k v (.slice ao' X c') (b.drop (X + 16))).toArray, .nilIface]) ∧ Own w.heap.size w' (.slice ao' X c') ((b.drop 16).take X) ∧ Below w.heap.size w w' := by
  have P0 := CW.start w ao b hb
  have hz : ∀ o, (w.alloc o).heap.size = w.heap.size + 1 := fun o => by simp
  have FH : Hid (∀ W, IsB W ao b → Calls Tryz.prog 96 #[.slice ao n cap] W fun e w' => e = .returned (.pointer none) ∧ w' = W) := fun W hW => first_ok ao n cap b hb0 W hW hn hcap hs X hX hne
  subst hne
  have HB0 : Hid (b.length = X + 48) := hb0
  have H5 : Hid ((b.getD 5 0).toNat = s) := h5
  have H6 : Hid ((b.getD 6 0).toNat = k) := h6
  have H8 : Hid (num4 (b.drop 8) = v) := h8
  obtain ⟨B, off, rfl, _⟩ := isb_cell hb 0 (by omega)
  clear hb hb0 hs hX h5 h6 h8
  have NU : Hid (∀ cc W, CW w (some ⟨B, off, none⟩) b W → Calls Tryz.prog 97 #[.slice (some ⟨B, off + 8, none⟩) 4 cc] W fun e w' => e = .returned (.int .u64 v) ∧ w' = W) := fun cc W h => by
    have := cnumber_any B (off + 8) cc (b.drop 8) (by rw [List.length_drop, HB0.out]; omega) W (h.dropCells 8)
    rw [H8.out] at this; exact this
  have HC5 : Hid (∀ W, CW w (some ⟨B, off, none⟩) b W → W.cell? ⟨B, off + 5, none⟩ = some (.int .u8 (s : Int))) := fun W h => by
    obtain ⟨B', off', e, hc⟩ := h.cell 5 (by rw [HB0.out]; omega)
    injection e with e; injection e with e1 e2; subst e1 e2; rw [hc, H5.out]
  have HC6 : Hid (∀ W, CW w (some ⟨B, off, none⟩) b W → W.cell? ⟨B, off + 6, none⟩ = some (.int .u8 (k : Int))) := fun W h => by
    obtain ⟨B', off', e, hc⟩ := h.cell 6 (by rw [HB0.out]; omega)
    injection e with e; injection e with e1 e2; subst e1 e2; rw [hc, H6.out]
  obtain ⟨aoP, haoP⟩ : ∃ aoP, (if X = 0 then some (⟨B, off, none⟩ : Addr) else some ⟨B, off + 16, none⟩) = aoP := ⟨_, rfl⟩
  have HAO : Hid ((if X = 0 then some (⟨B, off, none⟩ : Addr) else some ⟨B, off + 16, none⟩) = aoP) := haoP
  have IB : Hid (∀ W', CW w (some ⟨B, off, none⟩) b W' → IsB W' aoP ((b.drop 16).take X)) := fun W' h => by
    by_cases h0 : X = 0
    · subst h0; left; simp
    · rw [if_neg h0] at haoP
      rw [← haoP]
      exact isB_take (.inr ⟨B, off + 16, rfl, h.dropCells 16⟩) X
  clear haoP
  have HPL : Hid (((b.drop 16).take X).length = X) := by show _ = _; rw [List.length_take, List.length_drop, HB0.out]; omega
  have HTL : Hid ((b.drop (X + 16)).length = 32) := by show _ = _; rw [List.length_drop, HB0.out]; omega
  have HDC : Hid (∀ W', CW w (some ⟨B, off, none⟩) b W' → ∀ j x, (b.drop (X + 16))[j]? = some x → W'.cell? ⟨B, off + (X + 16) + j, none⟩ = some (B8 x)) := fun W' h => h.dropCells (X + 16)
  have hws : IntKind.i64.wrap (s : Int) = s := by have := (b.getD 5 0).isLt; rw [H5.out] at this; exact i64_in _ (by omega) (by omega)
  have hwk : IntKind.i64.wrap (k : Int) = k := by have := (b.getD 6 0).isLt; rw [H6.out] at this; exact i64_in _ (by omega) (by omega)
  have hwv : IntKind.i64.wrap (v : Int) = v := by have := num4_lt (b.drop 8); rw [H8.out] at this; exact i64_in _ (by omega) (by omega)
  have b5 : (5 : Int) < (X : Int) + 48 := by omega
  have b6 : (6 : Int) < (X : Int) + 48 := by omega
  have hc8 : ¬ cap = 8 := by omega
  have b12 : (12 : Int) ≤ (cap : Int) := by omega
  have hc2 : (X : Int) + 16 ≤ (cap : Int) := by omega
  have hc3 : (16 : Int) ≤ (X : Int) + 16 := by omega
  have hcc : (X : Int) + 48 ≤ (cap : Int) := by omega
  have hc4 : ¬ cap = X + 16 := by omega
  have HXL : Hid (X ≤ 524240) := by show _ ≤ _; omega
  have q32 : IntKind.i64.wrap ((X : Int) + 48 - 32) = (X : Int) + 16 := by rw [i64_in _ (by omega) (by omega)]; omega
  clear hn hcap
  go_enter Tryz.func86, Tryz.ntmps86
  go_wp2_with fail
  refine (FH.out _ P0.isb).mono ?_
  rintro e W1 ⟨rfl, hW1⟩
  have PQ : CW w (some ⟨B, off, none⟩) b W1 := by rw [hW1]; exact P0
  have hlo : w.heap.size + 1 ≤ W1.heap.size := by rw [hW1, hz]; exact Nat.le_refl _
  clear P0 hW1 FH hz
  dsimp only
  have HZ : Hid (CO w W1 (some ⟨B, off, none⟩) b s k v X ((b.drop 16).take X) undef undef undef false false false false W1.drew) := ⟨PQ.below (Below.refl (w.heap.size + 1) W1).drew (Nat.le_refl _), hlo, Nat.le_refl _, fun h => (by cases h), fun h => (by cases h), fun h => (by cases h), fun h => (by cases h), fun h => (by cases h)⟩
  go_wp2_with fail
  refine wp_region_inv (IC5 W1 w B off X cap aoP b s k v _ _ _ _ _ _ _ _ _ _ _ _ _ _ _ _ _ _ _ _ _ _ _) (by kernel_rfl) (by kernel_rfl) ⟨_, _, _, _, _, _, _, _, _, _, _, _, _, _, _, _, _, _, _, rfl, ⟨HZ.out, fun k => (by cases k), fun k => (by cases k), fun k => (by cases k), fun k => (by cases k), fun k => (by cases k), fun k => (by cases k), fun k => (by cases k), fun k => (by cases k), fun k => (by cases k), fun k => (by cases k), fun k => (by cases k), fun k => (by cases k), fun k => (by cases k), fun k => (by cases k), fun k => (by cases k), fun k => (by cases k)⟩⟩ ?_ ?_
  · refine .cons ?_ (.cons ?_ (.cons ?_ (.cons ?_ (.cons ?_ (.cons ?_ (.cons ?_ (.cons ?_ (.cons ?_ (.cons ?_ (.cons ?_ (.cons ?_ (.cons ?_ (.cons ?_ (.cons ?_ (.cons ?_ (.cons ?_ (.cons ?_ (.cons ?_ (.cons ?_ .nil)))))))))))))))))))
    all_goals (refine C5.step ?_; intro x17 x18 x19 x20 x21 x22 x23 x24 x25 x26 x27 x28 x29 x30 x31 x32 x33 x34 x6 L W hI hL hd K hK)
    · rw [if_pos (by rfl)]
      go_simp
      exact hK.out _ _ ⟨_, _, _, _, _, _, _, _, _, _, _, _, _, _, _, _, _, _, _, rfl, hI.s0⟩
    · have hx0 := hI.p0 (hd 0 (by decide))
      subst hx0
      rw [if_pos (by rfl)]
      go_simp
      exact hK.out _ _ ⟨_, _, _, _, _, _, _, _, _, _, _, _, _, _, _, _, _, _, _, rfl, hI.s1⟩
    · have hx1 := hI.p1 (hd 1 (by decide))
      subst hx1
      rw [if_pos (by rfl)]
      have c5 := HC5.out _ hI.x.cw
      go_simp
      exact hK.out _ _ ⟨_, _, _, _, _, _, _, _, _, _, _, _, _, _, _, _, _, _, _, rfl, hI.s2⟩
    · have hx2 := hI.p2 (hd 2 (by decide))
      subst hx2
      rw [if_pos (by rfl)]
      go_simp
      exact hK.out _ _ ⟨_, _, _, _, _, _, _, _, _, _, _, _, _, _, _, _, _, _, _, rfl, hI.s3⟩
    · rw [if_pos (by rfl)]
      go_simp
      exact hK.out _ _ ⟨_, _, _, _, _, _, _, _, _, _, _, _, _, _, _, _, _, _, _, rfl, hI.s4⟩
    · have hx4 := hI.p4 (hd 4 (by decide))
      subst hx4
      rw [if_pos (by rfl)]
      go_simp
      exact hK.out _ _ ⟨_, _, _, _, _, _, _, _, _, _, _, _, _, _, _, _, _, _, _, rfl, hI.s5⟩
    · have hx5 := hI.p5 (hd 5 (by decide))
      subst hx5
      rw [if_pos (by rfl)]
      have c6 := HC6.out _ hI.x.cw
      go_simp
      exact hK.out _ _ ⟨_, _, _, _, _, _, _, _, _, _, _, _, _, _, _, _, _, _, _, rfl, hI.s6⟩
    · have hx6 := hI.p6 (hd 6 (by decide))
      subst hx6
      rw [if_pos (by rfl)]
      go_simp
      exact hK.out _ _ ⟨_, _, _, _, _, _, _, _, _, _, _, _, _, _, _, _, _, _, _, rfl, hI.s7⟩
    · rw [if_pos (by rfl)]
      go_simp
      exact hK.out _ _ ⟨_, _, _, _, _, _, _, _, _, _, _, _, _, _, _, _, _, _, _, rfl, hI.s8⟩
    · have hx8 := hI.p8 (hd 8 (by decide))
      subst hx8
      rw [if_pos (by rfl)]
      go_simp
      exact hK.out _ _ ⟨_, _, _, _, _, _, _, _, _, _, _, _, _, _, _, _, _, _, _, rfl, hI.s9⟩
    · have hx9 := hI.p9 (hd 9 (by decide))
      subst hx9
      rw [if_pos (by rfl)]
      go_simp
      refine (NU.out _ _ hI.x.cw).mono ?_
      rintro e W2 ⟨rfl, rfl⟩
      go_simp
      exact hK.out _ _ ⟨_, _, _, _, _, _, _, _, _, _, _, _, _, _, _, _, _, _, _, rfl, hI.s10 (hI.x)⟩
    · have hx10 := hI.p10 (hd 10 (by decide))
      subst hx10
      rw [if_pos (by rfl)]
      go_simp
      exact hK.out _ _ ⟨_, _, _, _, _, _, _, _, _, _, _, _, _, _, _, _, _, _, _, rfl, hI.s11⟩
    · rw [if_pos (by rfl)]
      go_simp
      exact hK.out _ _ ⟨_, _, _, _, _, _, _, _, _, _, _, _, _, _, _, _, _, _, _, rfl, hI.s12⟩
    · rw [if_pos (by rfl)]
      go_simp
      exact hK.out _ _ ⟨_, _, _, _, _, _, _, _, _, _, _, _, _, _, _, _, _, _, _, rfl, hI.s13⟩
    · rw [if_pos (by rfl)]
      go_simp
      exact hK.out _ _ ⟨_, _, _, _, _, _, _, _, _, _, _, _, _, _, _, _, _, _, _, rfl, hI.s14⟩
    · have hx12 := hI.p12 (hd 12 (by decide))
      subst hx12
      have hx13 := hI.p13 (hd 13 (by decide))
      subst hx13
      have hx14 := hI.p14 (hd 14 (by decide))
      subst hx14
      rw [if_pos (by rfl)]
      have tn1 : ((X : Int) + 16).toNat = X + 16 := by omega
      have hao := HAO.out
      go_simp
      exact hK.out _ _ ⟨_, _, _, _, _, _, _, _, _, _, _, _, _, _, _, _, _, _, _, rfl, hI.s15⟩
    · have hx15 := hI.p15 (hd 15 (by decide))
      subst hx15
      rw [if_pos (by rfl)]
      go_simp
      refine (copied_any aoP X X ((b.drop 16).take X) HPL.out W (IB.out _ hI.x.cw) (by have := HXL.out; omega)).mono ?_
      rintro e W2 ⟨rfl, ho4, hb4⟩
      go_simp
      exact hK.out _ _ ⟨_, _, _, _, _, _, _, _, _, _, _, _, _, _, _, _, _, _, _, rfl, hI.s16 (hI.x.app hL ho4 hb4)⟩
    · have hx3 := hI.p3 (hd 3 (by decide))
      subst hx3
      have hx7 := hI.p7 (hd 7 (by decide))
      subst hx7
      have hx11 := hI.p11 (hd 11 (by decide))
      subst hx11
      rw [if_pos (by rfl)]
      obtain ⟨ao4, c4, rfl, _⟩ := hI.x.pl (hd 16 (by decide))
      go_simp
      exact hK.out _ _ ⟨_, _, _, _, _, _, _, _, _, _, _, _, _, _, _, _, _, _, _, rfl, hI.s17 (hI.x.bld (hd 16 (by decide)))⟩
    · rw [if_pos (by rfl)]
      go_simp
      exact hK.out _ _ ⟨_, _, _, _, _, _, _, _, _, _, _, _, _, _, _, _, _, _, _, rfl, hI.s18 (hI.x.mk6 hL)⟩
    · obtain ⟨G, rfl, hG, hr0, _⟩ := hI.x.im (hd 18 (by decide))
      obtain ⟨ao4, c4, rfl, _⟩ := hI.x.pl (hI.x.o34 (hd 17 (by decide)))
      have hbd := hI.x.bd (hd 17 (by decide))
      subst hbd
      refine step_store_Row rfl 110 _ _ rfl G 110 zImg (imgC s k v (.slice ao4 X c4) zT) (hr0 hL) rfl rfl rfl (by kernel_rfl) (imgC_one s k v ao4 X c4 zT) ?_
      intro W2 hr2 hs2
      exact hK.out _ _ ⟨_, _, _, _, _, _, _, _, _, _, _, _, _, _, _, _, _, _, _, rfl, hI.s19 (hI.x.st (hd 18 (by decide)) (hd 17 (by decide)) rfl hG (hr0 hL) hr2 hs2)⟩
  · refine C5.ends ?_; intro x17 x18 x19 x20 x21 x22 x23 x24 x25 x26 x27 x28 x29 x30 x31 x32 x33 x34 x6 L W hall hI
    have hx0 := hI.p0 (hall 0 (by decide))
    subst hx0
    have hx1 := hI.p1 (hall 1 (by decide))
    subst hx1
    have hx2 := hI.p2 (hall 2 (by decide))
    subst hx2
    have hx3 := hI.p3 (hall 3 (by decide))
    subst hx3
    have hx4 := hI.p4 (hall 4 (by decide))
    subst hx4
    have hx5 := hI.p5 (hall 5 (by decide))
    subst hx5
    have hx6 := hI.p6 (hall 6 (by decide))
    subst hx6
    have hx7 := hI.p7 (hall 7 (by decide))
    subst hx7
    have hx8 := hI.p8 (hall 8 (by decide))
    subst hx8
    have hx9 := hI.p9 (hall 9 (by decide))
    subst hx9
    have hx10 := hI.p10 (hall 10 (by decide))
    subst hx10
    have hx11 := hI.p11 (hall 11 (by decide))
    subst hx11
    have hx12 := hI.p12 (hall 12 (by decide))
    subst hx12
    have hx13 := hI.p13 (hall 13 (by decide))
    subst hx13
    have hx14 := hI.p14 (hall 14 (by decide))
    subst hx14
    have hx15 := hI.p15 (hall 15 (by decide))
    subst hx15
    have hXe := hI.x
    rw [hall 16 (by decide)] at hXe
    rw [hall 17 (by decide)] at hXe
    rw [hall 18 (by decide)] at hXe
    rw [hall 19 (by decide)] at hXe
    clear hI hall
    try dsimp only
    obtain ⟨ao4, c4, rfl, ho4⟩ := hXe.pl rfl
    obtain ⟨G, rfl, hG, _, hrG⟩ := hXe.im rfl
    have hr4 := hrG rfl
    have hcw := hXe.cw
    have hlo := hXe.lo
    have HD := HDC.out _ hcw
    have ES := imgC_settag s k v (.slice ao4 X c4) zT (b.drop (X + 16)) rfl HTL.out
    have tn1 : ((X : Int) + 16).toNat = X + 16 := by omega
    have tn2 : X + 48 - (X + 16) = 32 := by omega
    have hc5 : (X : Int) + 16 ≤ (X : Int) + 48 := by omega
    have hc6 : (0 : Int) ≤ (X : Int) + 16 := by omega
    have hil0 := imgC_len s k v (.slice ao4 X c4) zT rfl
    have hil := imgC_len s k v (.slice ao4 X c4) (b.drop (X + 16)) HTL.out
    have h1 := imgC_one s k v ao4 X c4 (b.drop (X + 16))
    have HNE4 := ho4.ne_row hr4 (by decide)
    generalize hIM0 : imgC s k v (.slice ao4 X c4) zT = IM0 at *
    generalize hIM : imgC s k v (.slice ao4 X c4) (b.drop (X + 16)) = IM at *
    clear hXe HZ NU HC5 HC6 IB hrG HDC hws hwk hwv b5 b6 b12 hc8 hIM0
    go_wp2_with fail
    go_region_law (refine step_copy_Row rfl (.tmp 36) (.tmp 39) rfl G 4 32 32 B (off + (X + 16)) 32 (cap - (X + 16)) rfl rfl 110 IM0 hr4 (b.drop (X + 16)) 32 HTL.out rfl HD (by rw [hil0]; omega) ?_; intro W5 hr5 hs5; rw [ES] at hr5)
    have pq := hcw.below (hs5.below (Below.refl (w.heap.size + 1) W).drew (by omega)) (Nat.le_refl _)
    have oq := (Own.drew ho4).but hs5 HNE4
    go_wp2_with (first | (refine wpList_load_Row rfl 110 _ rfl _ _ IM hr5 rfl _ Tryz.underlying110 rfl (by rw [hil]; kernel_rfl) ?_) | (refine wpList_store_Row rfl 110 _ _ rfl w.heap.size 110 0 zImg IM pq.img (by rw [hil]; exact Nat.le_refl _) rfl rfl (by rw [hil]; kernel_rfl) h1 ?_; intro w2 hr2 hs2))
    have q2 := row_whole hr2 (by rw [hil]; exact Nat.le_of_eq zImg_len)
    refine bodyPost_ret_by (results_rowtmp Tryz.results86 _ w2 w.heap.size 110 _ _ rfl q2 Tryz.underlying110 rfl (by rw [hil]; kernel_rfl)) rfl ⟨ao4, c4, ?_, ?_, ?_⟩
    · rw [hIM]; rfl
    · refine own_le (oq.but hs2 ?_) (show w.heap.size ≤ W1.heap.size by omega)
      intro h; subst h; have := oq.lt.1; omega
    · exact hs2.below pq.bel (Nat.le_refl _)

theorem cparse_img (ao : Option Addr) (n cap : Nat) (b : List By) (hb0 : b.length = n) (w : World) (hb : IsB w ao b) (hnil : ao = none → cap = 0) (hcap : n ≤ cap) (s k v : Nat) (p t : List By) (h : parse b = .img s k v p t) :
    Calls Tryz.prog 86 #[.slice ao n cap] w fun e w' => ∃ ao' c', e = .returned (.tuple #[.agg (imgC s k v (.slice ao' p.length c') t).toArray, .nilIface]) ∧ Own w.heap.size w' (.slice ao' p.length c') p ∧ Below w.heap.size w w' := by
  have hpi := parse_img h
  unfold parse at h
  rw [hb0] at h hpi
  split at h
  · cases h
  · rename_i hl
    split at h
    · cases h
    · rename_i hs
      simp only at h
      obtain ⟨X, hX⟩ : ∃ X, num4 (b.drop 12) = X := ⟨_, rfl⟩
      rw [hX] at h
      split at h
      · cases h
      · split at h
        · cases h
        · split at h
          · cases h
          · injection h with h; injection h with h1 h; injection h with h2 h; injection h with h3 h; injection h with h4 h5
            have hxp : X = p.length := by
              have := hpi.2.2.2.2.2.1
              rw [← h4, List.length_take, List.length_drop, hb0]
              clear hpi h3 h1 h2 h4 h5 hX
              omega
            subst hxp
            have hx := hX
            have := cparse_ok ao n cap b hb0 w hb hcap (by omega) hs p.length hx (by omega) s k v h1 h2 h3
            rw [h4, h5] at this
            exact this
end Go.Proofs.YtpcgkjngpdplmaaGreatDoor
