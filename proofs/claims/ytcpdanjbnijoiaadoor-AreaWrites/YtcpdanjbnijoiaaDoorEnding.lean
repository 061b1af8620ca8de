import Derived.Test.YtcpdanjbnijoiaaDoorMRefOf
import Derived.Test.YtcpdanjbnijoiaaDoorArMath
import Derived.Test.YtcpdanjbnijoiaaDoorI11Mem
import Derived.Test.YtcpdanjbnijoiaaDoorMMath
import Derived.Deep.RegionHeld3

/-! The reference's images: four, Cover, May, Tagged, Make. -/
namespace Go.Proofs.YtcpdanjbnijoiaaDoor
open Go.RowKit

theorem by0 (n : Nat) : (n : Int) % 256 = ((BitVec.ofNat 8 n).toNat : Int) := by rw [BitVec.toNat_ofNat]; omega
theorem by1 (n d : Nat) : (n : Int) / (d : Int) % 256 = ((BitVec.ofNat 8 (n / d)).toNat : Int) := by rw [BitVec.toNat_ofNat]; omega
theorem by3 (n : Nat) (h : n < 4294967296) : (n : Int) / 16777216 = ((BitVec.ofNat 8 (n / 16777216)).toNat : Int) := by rw [BitVec.toNat_ofNat]; omega

/-- An image's cells. -/
def imgC (s k v : Int) (pl : Value) (t : List By) : List Value := [.int .i64 s, .int .i64 k, .int .i64 v, pl] ++ t.map B8
theorem imgC_len (s k v : Int) (pl : Value) (t : List By) (ht : t.length = 32) : (imgC s k v pl t).length = 36 := by simp [imgC, ht]
/-- May there be such an image? -/
def may (s k v : Int) (n : Nat) : Int := if s < 0 ∨ 7 < s ∨ k < 0 ∨ 63 < k ∨ v < 0 ∨ 4294967295 < v then 2 else if 524240 < n then 4 else 0

theorem Own.drew {N : Nat} {w : World} {v : Value} {m : List By} (h : Own N w v m) : Own N w.drew v m := h

end Go.Proofs.YtcpdanjbnijoiaaDoor


/-! The reference's Tagged, Make, Body. -/
namespace Go.Proofs.YtcpdanjbnijoiaaDoor
open Go.RowKit

theorem imgC_tag (s k v : Int) (pl : Value) (t : List By) (j : Nat) (hj : j < t.length) : (imgC s k v pl t)[4 + j]? = some (.int .u8 ((t.getD j 0).toNat : Int)) := by
  unfold imgC
  rw [List.getElem?_append_right (by simp)]
  simp [hj, B8]

theorem imgC_settag (s k v : Int) (pl : Value) (t t' : List By) (ht : t.length = 32) (ht' : t'.length = 32) : (imgC s k v pl t).take 4 ++ t'.map B8 ++ (imgC s k v pl t).drop (4 + (t'.map B8).length) = imgC s k v pl t' := by
  have e1 : (imgC s k v pl t).take 4 = [.int .i64 s, .int .i64 k, .int .i64 v, pl] := rfl
  rw [e1, List.drop_of_length_le (by rw [imgC_len s k v pl t ht]; simp [ht'])]
  simp [imgC]

theorem may_ok (s k v n : Nat) (hs : s < 8) (hk : k < 64) (hv : v < 4294967296) (hn : n ≤ 524240) : may s k v n = 0 := by
  unfold may; rw [if_neg (by omega), if_neg (by omega)]

theorem isB_take {w : World} {ao : Option Addr} {b : List By} (h : IsB w ao b) (k : Nat) : IsB w ao (b.take k) := by
  rcases h with rfl | ⟨B, off, rfl, hc⟩
  · left; simp
  · right
    refine ⟨B, off, rfl, fun j v hj => hc j v ?_⟩
    rw [List.getElem?_take] at hj
    split at hj
    · exact hj
    · cases hj

end Go.Proofs.YtcpdanjbnijoiaaDoor


/-! The reference's must, number, Parse. -/
namespace Go.Proofs.YtcpdanjbnijoiaaDoor
open Go.RowKit

theorem nat_beq (x n : Nat) : ((x : Int) == (n : Int)) = (x == n) := by
  rw [Bool.eq_iff_iff]; simp only [beq_iff_eq]; omega

theorem or64 (a b : Nat) (ha : a < 4294967296) (hb : b < 4294967296) : bits .or .i64 (a : Int) (b : Int) = ((a ||| b : Nat) : Int) := by
  have h := Nat.or_lt_two_pow (n := 32) ha hb
  simp only [Nat.reducePow] at h
  have e : 2 ^ IntKind.i64.bits = 18446744073709551616 := rfl
  simp [bits]
  rw [e, Nat.mod_eq_of_lt (by omega), Nat.mod_eq_of_lt (by omega)]
  exact i64_in _ (by omega) (by omega)
theorem or_num (x0 x1 x2 x3 : Nat) (h0 : x0 < 256) (h1 : x1 < 256) (h2 : x2 < 256) : ((x0 ||| x1 * 256) ||| x2 * 65536) ||| x3 * 16777216 = x0 + x1 * 256 + x2 * 65536 + x3 * 16777216 := by
  have e1 : x0 ||| x1 * 256 = x0 + x1 * 256 := by
    rw [Nat.or_comm, Nat.mul_comm x1, show (256 : Nat) = 2 ^ 8 by rfl, ← Nat.two_pow_add_eq_or_of_lt (by simpa using h0)]; omega
  have e2 : (x0 + x1 * 256) ||| x2 * 65536 = x0 + x1 * 256 + x2 * 65536 := by
    rw [Nat.or_comm, Nat.mul_comm x2, show (65536 : Nat) = 2 ^ 16 by rfl, ← Nat.two_pow_add_eq_or_of_lt (by simp only [Nat.reducePow]; omega)]; omega
  have e3 : (x0 + x1 * 256 + x2 * 65536) ||| x3 * 16777216 = x0 + x1 * 256 + x2 * 65536 + x3 * 16777216 := by
    rw [Nat.or_comm, Nat.mul_comm x3, show (16777216 : Nat) = 2 ^ 24 by rfl, ← Nat.two_pow_add_eq_or_of_lt (by simp only [Nat.reducePow]; omega)]; omega
  rw [e1, e2, e3]
theorem num_form (x0 x1 x2 x3 : Nat) (h0 : x0 < 256) (h1 : x1 < 256) (h2 : x2 < 256) (h3 : x3 < 256) :
    bits .or .i64 (bits .or .i64 (bits .or .i64 (bits .or .i64 0 (x0 : Int)) ((x1 : Int) * 256)) ((x2 : Int) * 65536)) ((x3 : Int) * 16777216) = ((x0 + x1 * 256 + x2 * 65536 + x3 * 16777216 : Nat) : Int) := by
  have q := or_num x0 x1 x2 x3 h0 h1 h2
  have l1 : x0 ||| x1 * 256 < 2 ^ 32 := Nat.or_lt_two_pow (by simp only [Nat.reducePow]; omega) (by simp only [Nat.reducePow]; omega)
  have l2 : (x0 ||| x1 * 256) ||| x2 * 65536 < 2 ^ 32 := Nat.or_lt_two_pow l1 (by simp only [Nat.reducePow]; omega)
  simp only [Nat.reducePow] at l1 l2
  have a0 : bits .or .i64 0 (x0 : Int) = ((0 ||| x0 : Nat) : Int) := or64 0 x0 (by omega) (by omega)
  rw [a0, Nat.zero_or]
  have a1 : bits .or .i64 (x0 : Int) ((x1 : Int) * 256) = ((x0 ||| x1 * 256 : Nat) : Int) := by
    have := or64 x0 (x1 * 256) (by omega) (by omega); rw [← this]; congr 1
  rw [a1]
  have a2 : bits .or .i64 ((x0 ||| x1 * 256 : Nat) : Int) ((x2 : Int) * 65536) = (((x0 ||| x1 * 256) ||| x2 * 65536 : Nat) : Int) := by
    have := or64 (x0 ||| x1 * 256) (x2 * 65536) l1 (by omega); rw [← this]; congr 1
  rw [a2]
  have a3 : bits .or .i64 (((x0 ||| x1 * 256) ||| x2 * 65536 : Nat) : Int) ((x3 : Int) * 16777216) = ((((x0 ||| x1 * 256) ||| x2 * 65536) ||| x3 * 16777216 : Nat) : Int) := by
    have := or64 ((x0 ||| x1 * 256) ||| x2 * 65536) (x3 * 16777216) l2 (by omega); rw [← this]; congr 1
  rw [a3, q]

end Go.Proofs.YtcpdanjbnijoiaaDoor


/-! The reference's Parse. -/
namespace Go.Proofs.YtcpdanjbnijoiaaDoor
open Go.RowKit

/-- An image of nothing. -/
def zImg : List Value := imgC 0 0 0 (.slice none 0 0) (List.replicate 32 0)
theorem zImg_len : zImg.length = 36 := rfl
theorem zImg_one : ∀ v ∈ zImg, v.oneCell' = true := by
  intro v hv
  have : v ∈ zImg := hv
  simp [zImg, imgC] at this
  rcases this with rfl | rfl | rfl <;> rfl

theorem scan_end (b : List By) : scan b 16 (16 - 16) = none := rfl

end Go.Proofs.YtcpdanjbnijoiaaDoor


/-! The reference's Parse of an image. (Printed by tools/genrparse.py.) -/
namespace Go.Proofs.YtcpdanjbnijoiaaDoor
open Go.RowKit

theorem imgz_one (s k v : Nat) : ∀ x ∈ imgC s k v (.slice none 0 0) (List.replicate 32 0), x.oneCell' = true := by
  intro x hx
  simp [imgC] at hx
  rcases hx with rfl | rfl | rfl | rfl | rfl <;> rfl

theorem imgC_one (s k v : Int) (ao : Option Addr) (n c : Nat) (t : List By) : ∀ x ∈ imgC s k v (.slice ao n c) t, x.oneCell' = true := by
  intro x hx
  simp only [imgC, List.mem_append, List.mem_cons, List.not_mem_nil, or_false] at hx
  rcases hx with (rfl | rfl | rfl | rfl) | hx
  · rfl
  · rfl
  · rfl
  · rfl
  · exact B8_one t x hx
theorem imgC_setpl (s k v : Int) (a b : Value) (t : List By) : (imgC s k v a t).set 3 b = imgC s k v b t := rfl
theorem imgC_setb (s k v : Int) (pl : Value) (t : List By) (j : Nat) (y : By) : (imgC s k v pl t).set (4 + j) (.int .u8 (y.toNat : Int)) = imgC s k v pl (t.set j y) := by
  unfold imgC
  rw [List.set_append_right _ _ (by simp)]
  simp [List.map_set, B8]

section
variable {W1 : World} {w : World} {B off X cap : Nat} {b : List By} {s k v : Nat} {L : Nat → Bool} {x61 x62 x63 x64 x65 x66 x67 x68 x69 x70 x71 x72 x7 : Value} {W W2 : World}
end
end Go.Proofs.YtcpdanjbnijoiaaDoor


/-! The reference's Parse, one contract. -/
namespace Go.Proofs.YtcpdanjbnijoiaaDoor
open Go.RowKit

end Go.Proofs.YtcpdanjbnijoiaaDoor


/-! Layer 14, the document's answer: Bytes, Read. -/
namespace Go.Proofs.YtcpdanjbnijoiaaDoor
open Go.RowKit
set_option linter.unusedVariables false

theorem abytes_succ (s : RS) (a : Int) (p : Nat) : s.abytes a (p + 1) = s.abytes a p ++ (s.pages.getD (s.pgN a p) []).flatten := by
  unfold RS.abytes
  rw [List.range_succ, List.flatMap_append]
  simp
theorem take_flat (PG : List (List By)) (k : Nat) (hk : k < PG.length) : (PG.take (k + 1)).flatten = (PG.take k).flatten ++ PG.getD k [] := by
  rw [List.take_add_one, List.getElem?_eq_getElem hk, List.flatten_append, List.getD_eq_getElem?_getD, List.getElem?_eq_getElem hk]
  simp
theorem take_one' (X : List By) (i : Nat) (hi : i < X.length) : X.take (i + 1) = X.take i ++ [X.getD i 0] := by
  rw [List.take_add_one, List.getElem?_eq_getElem hi, List.getD_eq_getElem?_getD, List.getElem?_eq_getElem hi]; simp
theorem abytes_len {s : RS} (h : s.Ar) {a : Int} (ha : a = 0 ∨ a = 1) : ∀ p, p ≤ s.c.area.toNat → (s.abytes a p).length = p * (32 * s.c.cells.toNat)
  | 0, _ => by simp [RS.abytes]
  | p + 1, hp => by
    have hq := (h.pg ha (p := p) (by omega)).2.1
    have hl : (s.pages.getD (s.pgN a p) []).length = s.c.cells.toNat := by have := h.pgLen hq; have := h.cells; omega
    rw [abytes_succ, List.length_append, abytes_len h ha p (by omega), flat_len _ (h.by8 hq), hl, Nat.add_mul, Nat.one_mul]

/-- A slice of its own that holds these bytes. -/
def OB (N : Nat) (w0 : World) (v : Value) (L : List By) (W : World) : Prop := ∃ ao c, v = .slice ao L.length c ∧ Own N W (.slice ao L.length c) L ∧ Below N w0 W

end Go.Proofs.YtcpdanjbnijoiaaDoor


/-! Layer 14, the document's answer: Read. -/
namespace Go.Proofs.YtcpdanjbnijoiaaDoor
open Go.RowKit
set_option linter.unusedVariables false

theorem imgAt_short {b : List By} (h : b.length < 16) : imgAt b = none := by unfold imgAt; rw [if_pos h]
theorem imgAt_cut {b : List By} (h : ¬ b.length < 16) (h2 : b.length < 48 + num4 (b.drop 12)) : imgAt b = none := by unfold imgAt; rw [if_neg h, if_pos h2]
theorem imgAt_bad {b : List By} (h : ¬ b.length < 16) (h2 : ¬ b.length < 48 + num4 (b.drop 12)) {e a : Nat} (hp : parse (b.take (48 + num4 (b.drop 12))) = .error (e, a)) : imgAt b = none := by
  unfold imgAt; rw [if_neg h, if_neg h2, hp]
theorem imgAt_img {b : List By} (h : ¬ b.length < 16) (h2 : ¬ b.length < 48 + num4 (b.drop 12)) {q : Nat × Nat × Nat × List By × List By} (hp : parse (b.take (48 + num4 (b.drop 12))) = .ok q) : imgAt b = some (b.take (48 + num4 (b.drop 12))) := by
  unfold imgAt; rw [if_neg h, if_neg h2, hp]
theorem aread_of {s : RS} {a : Int} (h : s.areaE a = 0) {L : List By} (hL : s.abytes a s.c.area.toNat = L) : s.aread a = (match imgAt L with | some l => (l, 0) | none => ([], 5)) := by
  unfold RS.aread; rw [if_pos h, hL]
  cases imgAt L <;> rfl

end Go.Proofs.YtcpdanjbnijoiaaDoor


namespace Go.Proofs.YtcpdanjbnijoiaaDoor
open Go.RowKit

end Go.Proofs.YtcpdanjbnijoiaaDoor


namespace Go.Proofs.YtcpdanjbnijoiaaDoor
open Go.RowKit

theorem run_index_U (t len : Nat) (hu : Tryd.prog.underlying t = some (.array len 137)) (l : List Wd) (k : Nat) (hk : k < len) (hl : k < l.length) (w : World) :
    (Instr.index t (.agg (l.map U).toArray) (.int .i64 (k : Int))).run Tryd.prog w = .ok (.int .u32 ((l.getD k 0).toNat : Int)) w := by
  have hs : (sizeOf 137).run Tryd.prog w = .ok 1 w := by kernel_rfl
  simp [Instr.index, asIntOf, run_underlying hu, hk, hs, Go.part, hl, U]

end Go.Proofs.YtcpdanjbnijoiaaDoor


namespace Go.Proofs.YtcpdanjbnijoiaaDoor
open Go.RowKit

/-- A Digest's cells: the state, the bytes that don't make a piece yet, the count of all bytes. -/
def digCells (s : S8) (p : List By) (n : Nat) : List Value := s.list.map U ++ (p.map B8 ++ [.int .u64 (n : Int)])

end Go.Proofs.YtcpdanjbnijoiaaDoor


namespace Go.Proofs.YtcpdanjbnijoiaaDoor
open Go.RowKit

theorem wpList_make_Row {ops : Array Oper} {rest : List Oper} {o : Oper} {a : Act} {w : World} {Q : Exit → Act → World → Prop} (hg : o.guard = none) (l c : Operand) (hop : o.op = Op.makeSlice 29 l c)
    (kl kc : IntKind) (L C : Int) (n : Nat) (hl : a.eval l = .int kl L) (hc : a.eval c = .int kc C) (hL : L = (n : Int)) (hC : C = (n : Int)) (hn : n ≤ 1000000)
    (hK : ∀ w', Row w' w.heap.size 5 ((List.replicate n (0 : By)).map B8) → Below w.heap.size w w' → wpList Tryd.prog ops Q rest (a.put o.dst (.slice (some ⟨w.heap.size, 0, none⟩) n n)) w') :
    wpList Tryd.prog ops Q (o :: rest) a w := by
  obtain ⟨i0, hi, hz0, hz1, hz2⟩ := info_parts Tryd.info5
  refine wpList_plain hg fun K hK' => ?_
  subst hL
  subst hC
  have hrun := run_make (P := Tryd.prog) w 29 5 i0 (.int .u8 0) Tryd.underlying29 hi hz0 kl kc (n : Int) (n : Int) (by omega) (by omega) (by rw [hz2]; omega) (by omega)
  unfold Oper.wp
  simp [execOp, hop, hl, hc, hrun, Result.andThen]
  refine hK' _ _ (hK _ ?_ ?_)
  · refine Row.at w 5 _ _ _ rfl ?_
    rw [hz1, Nat.mul_one]
    have : (madeCells #[Value.int .u8 0] n).toList = (List.replicate n (0 : By)).map B8 := by
      rw [toList_madeCells_one]; simp [B8]
    rw [← this]; rfl
  · exact (Below.refl _ _).alloc (Nat.le_refl _) _

theorem set4 (pre post : List Value) (a b c d x y z t : Value) (o : Nat) (ho : o = pre.length) :
    ((((pre ++ a :: b :: c :: d :: post).set o x).set (o + 1) y).set (o + 2) z).set (o + 3) t = pre ++ x :: y :: z :: t :: post := by
  subst ho
  simp
theorem Row.put4 {w : World} {g ty o : Nat} {pre post : List Value} {a b c d : Value} (h : Row w g ty (pre ++ a :: b :: c :: d :: post)) (ho : o = pre.length) (x : Wd) :
    Row (put4 w g o x) g ty (pre ++ ((wbytes x).map B8 ++ post)) := by
  have := (((h.set o (B8 ((x >>> 24).setWidth 8))).set (o + 1) (B8 ((x >>> 16).setWidth 8))).set (o + 2) (B8 ((x >>> 8).setWidth 8))).set (o + 3) (B8 (x.setWidth 8))
  rw [set4 pre post a b c d _ _ _ _ o ho] at this
  exact this
theorem put4_but (w : World) (g o : Nat) (x : Wd) : SameBut g w (put4 w g o x) :=
  (((SameBut.setCell g o _ w).trans (SameBut.setCell g (o + 1) _ _)).trans (SameBut.setCell g (o + 2) _ _)).trans (SameBut.setCell g (o + 3) _ _)
theorem Row.there {w : World} {g t : Nat} {cs : List Value} (h : Row w g t cs) (o n : Nat) (hl : o + n ≤ cs.length) : w.there g o n := by
  intro j hj
  refine ⟨?_, h.frozen _⟩
  rw [h.cell (o + j) (cs[o + j]'(by omega)) (List.getElem?_eq_getElem (by omega))]; rfl

theorem lenBytes_of (n : Nat) : wbytes (BitVec.ofNat 32 (8 * n / 4294967296)) ++ wbytes (BitVec.ofNat 32 (8 * n)) = lenBytes n := by
  have h : ∀ (k s : Nat), s ≤ 24 → ((BitVec.ofNat 32 k >>> s).setWidth 8 : By) = BitVec.ofNat 8 (k / 2 ^ s) := by
    intro k s hs
    apply BitVec.eq_of_toNat_eq
    rw [BitVec.toNat_setWidth, BitVec.toNat_ushiftRight, BitVec.toNat_ofNat, BitVec.toNat_ofNat, Nat.shiftRight_eq_div_pow]
    have e : (2 : Nat) ^ 32 = 2 ^ s * 2 ^ (32 - s) := by rw [← Nat.pow_add]; congr 1; omega
    rw [e, Nat.mod_mul_right_div_self]
    have e2 : (2 : Nat) ^ (32 - s) = 2 ^ 8 * 2 ^ (24 - s) := by rw [← Nat.pow_add]; congr 1; omega
    rw [e2, Nat.mod_mul_right_mod]
  have h0 : ∀ k : Nat, ((BitVec.ofNat 32 k).setWidth 8 : By) = BitVec.ofNat 8 k := by
    intro k
    apply BitVec.eq_of_toNat_eq
    rw [BitVec.toNat_setWidth, BitVec.toNat_ofNat, BitVec.toNat_ofNat]
    omega
  simp only [wbytes, lenBytes, h0, h _ 24 (by omega), h _ 16 (by omega), h _ 8 (by omega), List.cons_append, List.nil_append, Nat.div_div_eq_div_mul, Nat.reducePow, Nat.reduceMul]

end Go.Proofs.YtcpdanjbnijoiaaDoor
