
import Derived.Test.YtnpbgfnahkmhoaaDoorI11Laws
/-! Rows of bytes; the bound of DOC.md over them. -/
namespace Go.Proofs.YtnpbgfnahkmhoaaDoor
open Go.RowKit

/-- A row of bytes, where it lies. -/
structure Rw where
  ao : Option Addr
  cap : Nat
  bs : List By
def Rw.val (r : Rw) : Value := .slice r.ao r.bs.length r.cap
structure OkR (W : World) (r : Rw) : Prop where
  isb : IsB W r.ao r.bs
  nil : r.ao = none → r.cap = 0
  cap : r.bs.length ≤ r.cap
  len : r.bs.length ≤ 140737488351232
structure RowsIn (W : World) (a : Option Addr) (l : List Rw) : Prop where
  cells : l = [] ∨ ∃ B off, a = some ⟨B, off, none⟩ ∧ ∀ j r, l[j]? = some r → W.cell? ⟨B, off + j, none⟩ = some r.val
  ok : ∀ r ∈ l, OkR W r
theorem OkR.below {W W' : World} {r : Rw} {N : Nat} (h : OkR W r) (hb : Below N W W') (hN : W.heap.size ≤ N) : OkR W' r := ⟨h.isb.below hb hN, h.nil, h.cap, h.len⟩
theorem RowsIn.at {W W' : World} {a : Option Addr} {l : List Rw} (h : RowsIn W a l) (hb : Below W.heap.size W W') (j : Nat) (hj : j < l.length) : ∃ B off, a = some ⟨B, off, none⟩ ∧ W'.cell? ⟨B, off + j, none⟩ = some (l[j].val) ∧ OkR W' l[j] := by
  rcases h.cells with h0 | ⟨B, off, h1, h2⟩
  · rw [h0] at hj; simp at hj
  · have hc := h2 j _ (List.getElem?_eq_getElem hj)
    exact ⟨B, off, h1, (hb.cell (p := ⟨B, off + j, none⟩) (block_lt_of_cell hc)).trans hc, (h.ok _ (List.getElem_mem hj)).below hb (Nat.le_refl _)⟩

/-- Is the bound passed? -/
def bey : Int → List Rw → Bool
  | left, [] => decide (left < 0)
  | left, r :: l => if left < 0 then true else bey (left - (1 + r.bs.length)) l
theorem bey_neg (left : Int) (l : List Rw) (h : left < 0) : bey left l = true := by
  cases l <;> simp [bey, h]

set_option maxHeartbeats 1000000 in
set_option maxRecDepth 100000 in
theorem beyond_any (a : Option Addr) (n cap : Nat) (ll : List Rw) (hn : ll.length = n) (w : World) (hr : RowsIn w a ll) (hl : n ≤ 140737488355328) :
    Calls Tryd.prog 12 #[.slice a n cap] w fun e w' => e = .returned (.bool (bey 2147483647 ll)) ∧ w' = w := by
  have HR : Hid (RowsIn w a ll) := hr
  have HN : Hid (ll.length = n) := hn
  obtain ⟨R, hR⟩ : ∃ R, bey 2147483647 ll = R := ⟨_, rfl⟩
  rw [hR]
  have HB : Hid (bey 2147483647 (ll.drop 0) = R) := by show _ = _; rw [List.drop_zero]; exact hR
  clear hr hn hR
  go_enter Tryd.func12, Tryd.ntmps12
  go_wp2
  go_loopw [3, 4] (fun l i wr => ∃ (q : Nat) (z : Int), q ≤ n ∧ -281474976710656 ≤ z ∧ z ≤ 2147483647 ∧ i = .int .i64 q ∧ l = .int .i64 z ∧ Hid (bey z (ll.drop q) = R) ∧ wr = w) (fun _ i _ => n - (intOf i).toNat)
  case atStart => exact ⟨0, 2147483647, by omega, by omega, by omega, rfl, rfl, HB, rfl⟩
  case round =>
    clear HB
    obtain ⟨q, z, hq, hz1, hz2, rfl, rfl, HQ, rfl⟩ := hrel
    by_cases hlt : q < n
    · have i1 : (q : Int) < (n : Int) := by omega
      by_cases hz : z < 0
      · have i2 : ¬ (0 : Int) ≤ z := by omega
        have hE := HQ.out
        rw [bey_neg z _ hz] at hE
        subst hE
        clear hz1 hz2
        go_wp2
        go_ret
        exact ⟨rfl, rfl⟩
      · have i2 : (0 : Int) ≤ z := by omega
        obtain ⟨B, off, rfl, hc, ok⟩ := HR.out.at (Below.refl _ _) q (by rw [HN.out]; exact hlt)
        have hE := HQ.out
        rw [List.drop_eq_getElem_cons (by rw [HN.out]; exact hlt)] at hE
        simp only [bey, if_neg hz] at hE
        have hlen := ok.len
        obtain ⟨r, hr⟩ : ∃ r, ll[q]'(by rw [HN.out]; exact hlt) = r := ⟨_, rfl⟩
        rw [hr] at hc hE hlen
        rw [Rw.val] at hc
        generalize r.bs.length = m at *
        have i3 : (0 : Int) ≤ (q : Int) := by omega
        have z1 : IntKind.i64.wrap (1 + (m : Int)) = 1 + (m : Int) := i64_in _ (by omega) (by omega)
        have z2 : IntKind.i64.wrap (z - (1 + (m : Int))) = z - (1 + (m : Int)) := i64_in _ (by omega) (by omega)
        have HE : Hid (bey (z - (1 + (m : Int))) (ll.drop (q + 1)) = R) := hE
        have j1 : -281474976710656 ≤ z - (1 + (m : Int)) := by omega
        have j2 : z - (1 + (m : Int)) ≤ 2147483647 := by omega
        have J : Hid (-281474976710656 ≤ z - (1 + (m : Int)) ∧ z - (1 + (m : Int)) ≤ 2147483647) := ⟨j1, j2⟩
        clear hE hz1 hz2 ok hlen hr j1 j2
        go_wp2
        exact ⟨⟨q + 1, _, by omega, J.out.1, J.out.2, by go_num, rfl, HE, (by first | trivial | rfl)⟩, by simp [intOf]; omega⟩
    · obtain rfl : q = n := by omega
      have hE := HQ.out
      rw [List.drop_of_length_le (by rw [HN.out]; exact Nat.le_refl _)] at hE
      simp only [bey] at hE
      clear HQ hlt
      subst hE
      have i1 : ¬ (q : Int) < (q : Int) := by omega
      clear hz1 hz2
      go_wp2
      go_ret
      exact ⟨rfl, rfl⟩
end Go.Proofs.YtnpbgfnahkmhoaaDoor
