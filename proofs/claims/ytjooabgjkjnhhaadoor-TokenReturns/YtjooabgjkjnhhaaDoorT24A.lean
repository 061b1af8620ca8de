import Derived.Test.YtjooabgjkjnhhaaDoorMApp
import Derived.BigQuiet
import Derived.Test.YtjooabgjkjnhhaaDoorT24Math
import Derived.Test.YtjooabgjkjnhhaaDoorI11Mem

/-! Rows of bytes held against each other: the code's, and the document's. -/
namespace Go.Proofs.YtjooabgjkjnhhaaDoor
open Go.RowKit

theorem bv8_ofInt (x : By) : BitVec.ofInt 8 (x.toNat : Int) = x := by
  rw [BitVec.ofInt_natCast, BitVec.ofNat_toNat, BitVec.setWidth_eq]
theorem bits8_or (x y : By) : bits .or .u8 (x.toNat : Int) (y.toNat : Int) = ((x ||| y).toNat : Int) := by
  show IntKind.u8.wrap ((BitVec.ofInt 8 (x.toNat : Int) ||| BitVec.ofInt 8 (y.toNat : Int)).toNat : Int) = _
  rw [bv8_ofInt, bv8_ofInt, IntKind.wrap_u8']
  have := b8_lt (x ||| y)
  omega
theorem bits8_xor (x y : By) : bits .xor .u8 (x.toNat : Int) (y.toNat : Int) = ((x ^^^ y).toNat : Int) := by
  show IntKind.u8.wrap ((BitVec.ofInt 8 (x.toNat : Int) ^^^ BitVec.ofInt 8 (y.toNat : Int)).toNat : Int) = _
  rw [bv8_ofInt, bv8_ofInt, IntKind.wrap_u8']
  have := b8_lt (x ^^^ y)
  omega

theorem IsB.cell {w : World} {ao : Option Addr} {m : List By} (h : IsB w ao m) (j : Nat) (hj : j < m.length) : ∃ B off, ao = some ⟨B, off, none⟩ ∧ w.cell? ⟨B, off + j, none⟩ = some (.int .u8 ((m.getD j 0).toNat : Int)) := by
  rcases h with rfl | ⟨B, off, rfl, hc⟩
  · simp at hj
  · refine ⟨B, off, rfl, ?_⟩
    have := hc j (m.getD j 0) (by rw [List.getD_eq_getElem?_getD, List.getElem?_eq_getElem hj]; rfl)
    exact this

def SameTo (a b : List By) (k : Nat) : Prop := a.length = b.length ∧ ∀ j, j < k → a.getD j 0 = b.getD j 0
theorem sameTo_all {a b : List By} {k : Nat} (h : SameTo a b k) (hk : a.length ≤ k) : a = b := by
  obtain ⟨h1, h2⟩ := h
  apply List.ext_getElem h1
  intro i hi hi'
  have := h2 i (by omega)
  simpa [List.getD_eq_getElem?_getD, hi, hi'] using this
theorem sameTo_refl (a : List By) (k : Nat) : SameTo a a k := ⟨rfl, fun _ _ => rfl⟩
theorem or_zero (x y z : By) : (x ||| (y ^^^ z)) = 0 ↔ x = 0 ∧ y = z := by
  constructor
  · intro h
    have h1 : x = 0 := by
      apply BitVec.eq_of_getLsbD_eq
      intro i hi
      have := congrArg (fun v => v.getLsbD i) h
      simp at this ⊢
      exact this.1
    refine ⟨h1, ?_⟩
    subst h1
    apply BitVec.eq_of_getLsbD_eq
    intro i hi
    have := congrArg (fun v => v.getLsbD i) h
    simpa using this
  · rintro ⟨rfl, rfl⟩; simp

end Go.Proofs.YtjooabgjkjnhhaaDoor


/-! The document's HMAC on lists of bytes. -/
namespace Go.Proofs.YtjooabgjkjnhhaaDoor
open Go.RowKit

def kh (k : List By) : List By := if 64 < k.length then sha k else k
/-- A key's block key. -/
def kb (k : List By) : List By := kh k ++ List.replicate (64 - (kh k).length) 0
/-- Bytes, each under exclusive or with one. -/
def tn (l : List By) (x : By) : List By := l.map (· ^^^ x)
/-- The tag of bytes under a key. -/
def tag (k b : List By) : List By := sha (tn (kb k) 92#8 ++ sha (tn (kb k) 54#8 ++ b))

theorem shaLen (m : List By) : (sha m).length = 32 := rfl
theorem tag_len (k b : List By) : (tag k b).length = 32 := rfl
theorem kh_le (k : List By) : (kh k).length ≤ 64 := by
  unfold kh
  split
  · rw [shaLen]; omega
  · omega
theorem kb_len (k : List By) : (kb k).length = 64 := by
  have := kh_le k
  unfold kb
  rw [List.length_append, List.length_replicate]; omega
theorem tn_len (l : List By) (x : By) : (tn l x).length = l.length := by simp [tn]
theorem tn_take (l : List By) (x : By) (k : Nat) (hk : k < l.length) : tn (l.take (k + 1)) x = tn (l.take k) x ++ [l.getD k 0 ^^^ x] := by
  unfold tn
  rw [List.take_add_one, List.map_append, List.getElem?_eq_getElem hk, List.getD_eq_getElem?_getD, List.getElem?_eq_getElem hk]; rfl
theorem kb_short (k : List By) (h : k.length ≤ 64) : kb k = k ++ List.replicate (64 - k.length) 0 := by
  have e : kh k = k := by unfold kh; rw [if_neg (by omega)]
  unfold kb; rw [e]
theorem kb_long (k : List By) (h : 64 < k.length) : kb k = sha k ++ List.replicate 32 0 := by
  have e : kh k = sha k := by unfold kh; rw [if_pos h]
  unfold kb; rw [e, shaLen]
/-- Keys that are the same but for bytes 00 up to a block's end. -/
theorem kb_wide (k : List By) (n : Nat) (h : k.length + n ≤ 64) : kb (k ++ List.replicate n 0) = kb k := by
  rw [kb_short k (by omega), kb_short _ (by rw [List.length_append, List.length_replicate]; omega), List.append_assoc, List.replicate_append_replicate, List.length_append, List.length_replicate]
  congr 2; omega
theorem kb_hash (k : List By) (h : 64 < k.length) : kb (sha k) = kb k := by
  rw [kb_long k h, kb_short (sha k) (by rw [shaLen]; omega), shaLen]
theorem tag_wide (k b : List By) (n : Nat) (h : k.length + n ≤ 64) : tag (k ++ List.replicate n 0) b = tag k b := by unfold tag; rw [kb_wide k n h]
theorem tag_hash (k b : List By) (h : 64 < k.length) : tag (sha k) b = tag k b := by unfold tag; rw [kb_hash k h]

end Go.Proofs.YtjooabgjkjnhhaaDoor


/-! The document's HMAC, as the reference computes it. -/
namespace Go.Proofs.YtjooabgjkjnhhaaDoor
open Go.RowKit

theorem row_isb {w : World} {g t : Nat} {l : List By} (h : Row w g t (l.map B8)) : IsB w (some ⟨g, 0, none⟩) l :=
  .inr ⟨g, 0, rfl, fun j v hj => by rw [Nat.zero_add]; exact h.cell j _ (by rw [List.getElem?_map, hj]; rfl)⟩

end Go.Proofs.YtjooabgjkjnhhaaDoor


namespace Go.Proofs.YtjooabgjkjnhhaaDoor
open Go.RowKit

end Go.Proofs.YtjooabgjkjnhhaaDoor


/-! The reference's token: within, only, eight, a caveat's bytes. (Printed by tools/gent24.py.) -/
namespace Go.Proofs.YtjooabgjkjnhhaaDoor
open Go.RowKit
set_option linter.unusedVariables false
set_option linter.unusedSimpArgs false

def cvC (c : Cv) : List Value := [.int .i64 c.k, .int .i64 c.s, .int .i64 c.f, .int .i64 c.t, .int .u64 (c.z : Int)]
def Cv.ok (c : Cv) : Prop := (-9223372036854775808 ≤ c.k ∧ c.k < 9223372036854775808) ∧ (-9223372036854775808 ≤ c.s ∧ c.s < 9223372036854775808) ∧ (-9223372036854775808 ≤ c.f ∧ c.f < 9223372036854775808) ∧ (-9223372036854775808 ≤ c.t ∧ c.t < 9223372036854775808) ∧ c.z < 18446744073709551616

set_option maxHeartbeats 1000000 in
theorem r24within_any (a b : Int) (w : World) : Calls Tryd.prog 43 #[.int .i64 a, .int .i64 b] w fun e w' => e = .returned (.bool (decide (0 ≤ a ∧ a ≤ b))) ∧ Below w.heap.size w w' := by
  go_enter Tryd.func43, Tryd.ntmps43
  by_cases h1 : 0 ≤ a
  · by_cases h2 : a ≤ b
    · go_wp2
      go_ret
      exact ⟨by simp [h1, h2], Below.refl _ _⟩
    · go_wp2
      go_ret
      exact ⟨by simp [h1, h2], Below.refl _ _⟩
  · go_wp2
    go_ret
    exact ⟨by simp; omega, Below.refl _ _⟩

set_option maxHeartbeats 4000000 in
set_option maxRecDepth 100000 in
theorem r24only_any (k s f t : Int) (z : Nat) (b1 b2 b3 b4 : Bool) (w : World) : Calls Tryd.prog 42 #[.agg #[.int .i64 k, .int .i64 s, .int .i64 f, .int .i64 t, .int .u64 (z : Int)], .bool b1, .bool b2, .bool b3, .bool b4] w fun e w' => e = .returned (.bool ((b1 || s == 0) && (b2 || f == 0) && (b3 || t == 0) && (b4 || z == 0))) ∧ Below w.heap.size w w' := by
  have HB : Hid (Below w.heap.size w (w.alloc (.cells #[.int .i64 k, .int .i64 s, .int .i64 f, .int .i64 t, .int .u64 (z : Int)] 72))) := (Below.refl _ _).alloc (Nat.le_refl _) _
  have HF : Hid True := trivial
  go_enter Tryd.func42, Tryd.ntmps42
  cases b1 with
  | true =>
    cases b2 with
    | true =>
      cases b3 with
      | true =>
        cases b4 with
        | true =>
          go_wp2
          go_ret
          exact ⟨by simp [HF.out], HB.out⟩
        | false =>
          by_cases h4 : z = 0
          · subst h4
            go_wp2
            go_ret
            exact ⟨by simp [HF.out], HB.out⟩
          · have y4 : (z == 0) = false := by rw [beq_eq_false_iff_ne]; exact h4
            have x4 : ((z : Int) == 0) = false := by rw [beq_eq_false_iff_ne]; omega
            go_wp2
            go_ret
            exact ⟨by simp [HF.out, h4], HB.out⟩
      | false =>
        by_cases h3 : t = 0
        · subst h3
          cases b4 with
          | true =>
            go_wp2
            go_ret
            exact ⟨by simp [HF.out], HB.out⟩
          | false =>
            by_cases h4 : z = 0
            · subst h4
              go_wp2
              go_ret
              exact ⟨by simp [HF.out], HB.out⟩
            · have y4 : (z == 0) = false := by rw [beq_eq_false_iff_ne]; exact h4
              have x4 : ((z : Int) == 0) = false := by rw [beq_eq_false_iff_ne]; omega
              go_wp2
              go_ret
              exact ⟨by simp [HF.out, h4], HB.out⟩
        · have y3 : (t == 0) = false := by rw [beq_eq_false_iff_ne]; exact h3
          go_wp2
          go_ret
          exact ⟨by simp [HF.out, h3], HB.out⟩
    | false =>
      by_cases h2 : f = 0
      · subst h2
        cases b3 with
        | true =>
          cases b4 with
          | true =>
            go_wp2
            go_ret
            exact ⟨by simp [HF.out], HB.out⟩
          | false =>
            by_cases h4 : z = 0
            · subst h4
              go_wp2
              go_ret
              exact ⟨by simp [HF.out], HB.out⟩
            · have y4 : (z == 0) = false := by rw [beq_eq_false_iff_ne]; exact h4
              have x4 : ((z : Int) == 0) = false := by rw [beq_eq_false_iff_ne]; omega
              go_wp2
              go_ret
              exact ⟨by simp [HF.out, h4], HB.out⟩
        | false =>
          by_cases h3 : t = 0
          · subst h3
            cases b4 with
            | true =>
              go_wp2
              go_ret
              exact ⟨by simp [HF.out], HB.out⟩
            | false =>
              by_cases h4 : z = 0
              · subst h4
                go_wp2
                go_ret
                exact ⟨by simp [HF.out], HB.out⟩
              · have y4 : (z == 0) = false := by rw [beq_eq_false_iff_ne]; exact h4
                have x4 : ((z : Int) == 0) = false := by rw [beq_eq_false_iff_ne]; omega
                go_wp2
                go_ret
                exact ⟨by simp [HF.out, h4], HB.out⟩
          · have y3 : (t == 0) = false := by rw [beq_eq_false_iff_ne]; exact h3
            go_wp2
            go_ret
            exact ⟨by simp [HF.out, h3], HB.out⟩
      · have y2 : (f == 0) = false := by rw [beq_eq_false_iff_ne]; exact h2
        go_wp2
        go_ret
        exact ⟨by simp [HF.out, h2], HB.out⟩
  | false =>
    by_cases h1 : s = 0
    · subst h1
      cases b2 with
      | true =>
        cases b3 with
        | true =>
          cases b4 with
          | true =>
            go_wp2
            go_ret
            exact ⟨by simp [HF.out], HB.out⟩
          | false =>
            by_cases h4 : z = 0
            · subst h4
              go_wp2
              go_ret
              exact ⟨by simp [HF.out], HB.out⟩
            · have y4 : (z == 0) = false := by rw [beq_eq_false_iff_ne]; exact h4
              have x4 : ((z : Int) == 0) = false := by rw [beq_eq_false_iff_ne]; omega
              go_wp2
              go_ret
              exact ⟨by simp [HF.out, h4], HB.out⟩
        | false =>
          by_cases h3 : t = 0
          · subst h3
            cases b4 with
            | true =>
              go_wp2
              go_ret
              exact ⟨by simp [HF.out], HB.out⟩
            | false =>
              by_cases h4 : z = 0
              · subst h4
                go_wp2
                go_ret
                exact ⟨by simp [HF.out], HB.out⟩
              · have y4 : (z == 0) = false := by rw [beq_eq_false_iff_ne]; exact h4
                have x4 : ((z : Int) == 0) = false := by rw [beq_eq_false_iff_ne]; omega
                go_wp2
                go_ret
                exact ⟨by simp [HF.out, h4], HB.out⟩
          · have y3 : (t == 0) = false := by rw [beq_eq_false_iff_ne]; exact h3
            go_wp2
            go_ret
            exact ⟨by simp [HF.out, h3], HB.out⟩
      | false =>
        by_cases h2 : f = 0
        · subst h2
          cases b3 with
          | true =>
            cases b4 with
            | true =>
              go_wp2
              go_ret
              exact ⟨by simp [HF.out], HB.out⟩
            | false =>
              by_cases h4 : z = 0
              · subst h4
                go_wp2
                go_ret
                exact ⟨by simp [HF.out], HB.out⟩
              · have y4 : (z == 0) = false := by rw [beq_eq_false_iff_ne]; exact h4
                have x4 : ((z : Int) == 0) = false := by rw [beq_eq_false_iff_ne]; omega
                go_wp2
                go_ret
                exact ⟨by simp [HF.out, h4], HB.out⟩
          | false =>
            by_cases h3 : t = 0
            · subst h3
              cases b4 with
              | true =>
                go_wp2
                go_ret
                exact ⟨by simp [HF.out], HB.out⟩
              | false =>
                by_cases h4 : z = 0
                · subst h4
                  go_wp2
                  go_ret
                  exact ⟨by simp [HF.out], HB.out⟩
                · have y4 : (z == 0) = false := by rw [beq_eq_false_iff_ne]; exact h4
                  have x4 : ((z : Int) == 0) = false := by rw [beq_eq_false_iff_ne]; omega
                  go_wp2
                  go_ret
                  exact ⟨by simp [HF.out, h4], HB.out⟩
            · have y3 : (t == 0) = false := by rw [beq_eq_false_iff_ne]; exact h3
              go_wp2
              go_ret
              exact ⟨by simp [HF.out, h3], HB.out⟩
        · have y2 : (f == 0) = false := by rw [beq_eq_false_iff_ne]; exact h2
          go_wp2
          go_ret
          exact ⟨by simp [HF.out, h2], HB.out⟩
    · have y1 : (s == 0) = false := by rw [beq_eq_false_iff_ne]; exact h1
      go_wp2
      go_ret
      exact ⟨by simp [HF.out, h1], HB.out⟩

theorem le8_num (n : Nat) : le8 n = (List.range 8).map fun i => BitVec.ofNat 8 (n / 2 ^ (8 * i)) := by
  simp [le8, List.range_succ]
def nB (n k : Nat) : List By := (List.range k).map fun i => BitVec.ofNat 8 (n / 2 ^ (8 * i))
theorem nB_succ (n k : Nat) : nB n (k + 1) = nB n k ++ [BitVec.ofNat 8 (n / 2 ^ (8 * k))] := by simp [nB, List.range_succ]

set_option maxHeartbeats 1000000 in
set_option maxRecDepth 100000 in
theorem r24eight_any (N : Nat) (a0 w : World) (hbl : Below N a0 w) (ao : Option Addr) (nD capD : Nat) (m : List By) (ho : Own N w (.slice ao nD capD) m) (x : Nat) (hx : x < 18446744073709551616) (hnD : nD ≤ 1000000) :
    Calls Tryd.prog 40 #[.slice ao nD capD, .int .u64 x] w fun e w' => ∃ ao' c', e = .returned (.slice ao' (nD + 8) c') ∧ Own N w' (.slice ao' (nD + 8) c') (m ++ le8 x) ∧ Below N a0 w' := by
  have HO : Hid (Own N w (.slice ao nD capD) (m ++ nB x 0)) := by
    show Own N w (.slice ao nD capD) (m ++ nB x 0)
    simpa [nB] using ho
  have HB : Hid (Below N a0 w) := hbl
  clear ho hbl
  go_enter Tryd.func40, Tryd.ntmps40
  go_wp2
  go_loopw [0, 5] (fun bv iv wr => ∃ (i : Nat) (bo : Option Addr) (bc : Nat), i ≤ 8 ∧ bv = .slice bo (nD + i) bc ∧ iv = .int .i64 i ∧ Hid (Own N wr (.slice bo (nD + i) bc) (m ++ nB x i) ∧ Below N a0 wr)) (fun _ iv _ => 8 - (intOf iv).toNat)
  case atStart => exact ⟨0, ao, capD, by omega, rfl, rfl, HO.out, HB.out⟩
  case round =>
    clear HO HB
    obtain ⟨i, bo, bc, hi, rfl, rfl, HI⟩ := hrel
    by_cases hlt : i < 8
    · have y0 : (0 : Int) ≤ (i : Int) := by omega
      have y1 : (i : Int) < 8 := by omega
      have z1 : IntKind.i64.wrap (8 * (i : Int)) = 8 * (i : Int) := i64_in _ (by omega) (by omega)
      have HYY : Hid ((x : Int) / 2 ^ (8 * i) % 256 = ((BitVec.ofNat 8 (x / 2 ^ (8 * i))).toNat : Int)) := by
        show _ = _
        rw [BitVec.toNat_ofNat]
        simp [Int.natCast_ediv, Int.natCast_emod, Int.natCast_pow]
      have HL : Hid ((m ++ nB x i).length = nD + i) := HI.out.1.len
      go_wp2_with (at_builtin; refine wpList_append_one rfl (.tmp 10) (.tmp 16) rfl N 5 a0 (.slice bo (nD + i) bc) (m ++ nB x i) _ _ HYY.out wr.heap.size rfl rfl rfl HI.out.1 HI.out.2 (nD + i) HL.out (by omega) ?_; intro g2 c2 w2 ho2 hb2)
      exact ⟨⟨i + 1, _, c2, by omega, rfl, by go_num, ⟨by rw [nB_succ, ← List.append_assoc]; exact ho2, hb2⟩⟩, by simp [intOf]; omega⟩
    · obtain rfl : i = 8 := by omega
      have y1 : ¬ ((8 : Nat) : Int) < 8 := by omega
      have HI2 : Hid (Own N wr (.slice bo (nD + 8) bc) (m ++ le8 x) ∧ Below N a0 wr) := ⟨by rw [le8_num]; exact HI.out.1, HI.out.2⟩
      clear HI
      go_wp2
      go_ret
      exact ⟨bo, bc, rfl, HI2.out.1, HI2.out.2⟩

theorem u64N_cast (f : Int) : ((u64N f : Nat) : Int) = f % 18446744073709551616 := by unfold u64N; omega
theorem ofInt_mod (k : Int) : ((BitVec.ofInt 8 k).toNat : Int) = k % 256 := by rw [BitVec.toNat_ofInt]; omega

set_option maxHeartbeats 2000000 in
set_option maxRecDepth 100000 in
theorem r24cBytes_any (c : Cv) (hz : c.z < 18446744073709551616) (w : World) : Calls Tryd.prog 23 #[.agg (cvC c).toArray] w fun e w' => ∃ ao c', e = .returned (.slice ao 26 c') ∧ Own w.heap.size w' (.slice ao 26 c') (cvB c) ∧ Below w.heap.size w w' := by
  obtain ⟨k, s, f, t, z⟩ := c
  dsimp only at hz
  show Calls Tryd.prog 23 #[.agg #[.int .i64 k, .int .i64 s, .int .i64 f, .int .i64 t, .int .u64 (z : Int)]] w _
  obtain ⟨W1, hW1⟩ : ∃ W1, W1 = w.alloc (.cells #[.int .i64 k, .int .i64 s, .int .i64 f, .int .i64 t, .int .u64 (z : Int)] 72) := ⟨_, rfl⟩
  have r0 : Row W1 w.heap.size 72 [.int .i64 k, .int .i64 s, .int .i64 f, .int .i64 t, .int .u64 (z : Int)] := by rw [hW1]; exact Row.at w _ _ _ _ rfl rfl
  have b1 : Below w.heap.size w W1 := by rw [hW1]; exact (Below.refl _ _).alloc (Nat.le_refl _) _
  have hz1 : W1.heap.size = w.heap.size + 1 := by rw [hW1]; simp
  have ho : Own (w.heap.size + 1) (W1.alloc (.cells #[.int .u8 (k % 256), .int .u8 (s % 256)] 5)) (.slice (some ⟨w.heap.size + 1, 0, none⟩) 2 2) [BitVec.ofInt 8 k, BitVec.ofInt 8 s] := by
    have e : ([BitVec.ofInt 8 k, BitVec.ofInt 8 s].map B8).toArray = #[.int .u8 (k % 256), .int .u8 (s % 256)] := by
      simp only [List.map_cons, List.map_nil, B8, ofInt_mod]
    have := own_new (w.heap.size + 1) W1 (by omega) [BitVec.ofInt 8 k, BitVec.ofInt 8 s] _ rfl 2 rfl (by omega)
    rw [hz1, e] at this
    exact this
  have b2 : Below (w.heap.size + 1) W1 (W1.alloc (.cells #[.int .u8 (k % 256), .int .u8 (s % 256)] 5)) := (Below.refl _ _).alloc (by omega) _
  have F1 := r24eight_any (w.heap.size + 1) W1 _ b2 _ 2 2 _ ho (u64N f) (u64N_lt f) (by omega)
  rw [u64N_cast] at F1
  have HR : Hid (∀ W, Below (w.heap.size + 1) W1 W → Row W w.heap.size 72 [.int .i64 k, .int .i64 s, .int .i64 f, .int .i64 t, .int .u64 (z : Int)]) := fun W h => r0.below h (by omega)
  have HB1 : Hid (Below w.heap.size w W1) := b1
  have HZ1 : Hid (W1.heap.size = w.heap.size + 1) := hz1
  rw [hW1] at F1
  clear ho b2 r0 b1 hz1
  go_enter Tryd.func23, Tryd.ntmps23
  go_wp2_with fail
  refine F1.mono ?_
  clear F1
  rw [← hW1]
  clear hW1
  rintro e w2 ⟨ao2, q2, rfl, ho2, hb2⟩
  have c3 := (HR.out _ hb2).cell 3 _ rfl
  have F2 := r24eight_any (w.heap.size + 1) W1 w2 hb2 ao2 10 q2 _ ho2 (u64N t) (u64N_lt t) (by omega)
  rw [u64N_cast] at F2
  clear ho2 hb2
  dsimp only
  go_wp2_with fail
  refine F2.mono ?_
  clear F2 c3
  rintro e w3 ⟨ao3, q3, rfl, ho3, hb3⟩
  have c4 := (HR.out _ hb3).cell 4 _ rfl
  have F3 := r24eight_any (w.heap.size + 1) W1 w3 hb3 ao3 18 q3 _ ho3 z hz (by omega)
  clear ho3 hb3
  dsimp only
  go_wp2_with fail
  refine F3.mono ?_
  clear F3 c4
  rintro e w4 ⟨ao4, q4, rfl, ho4, hb4⟩
  have HF : Hid (Own w.heap.size w4 (.slice ao4 26 q4) (cvB ⟨k, s, f, t, z⟩) ∧ Below w.heap.size w w4) := ⟨own_le ho4 (by omega), HB1.out.trans (hb4.mono (by omega))⟩
  clear ho4 hb4
  dsimp only
  go_wp2_with fail
  go_ret
  exact ⟨ao4, q4, rfl, HF.out.1, HF.out.2⟩
end Go.Proofs.YtjooabgjkjnhhaaDoor
