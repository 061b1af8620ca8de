
import Derived.Test.YtepafpnpmpijeaaRefOf
namespace Go.Proofs.Ytepafpnpmpijeaa
open Go.RowKit

theorem wpList_make_Row {ops : Array Oper} {rest : List Oper} {o : Oper} {a : Act} {w : World} {Q : Exit → Act → World → Prop} (hg : o.guard = none) (l c : Operand) (hop : o.op = Op.makeSlice 36 l c)
    (kl kc : IntKind) (L C : Int) (n : Nat) (hl : a.eval l = .int kl L) (hc : a.eval c = .int kc C) (hL : L = (n : Int)) (hC : C = (n : Int)) (hn : n ≤ 1000000)
    (hK : ∀ w', Row w' w.heap.size 5 ((List.replicate n (0 : By)).map B8) → Below w.heap.size w w' → wpList Try.prog ops Q rest (a.put o.dst (.slice (some ⟨w.heap.size, 0, none⟩) n n)) w') :
    wpList Try.prog ops Q (o :: rest) a w := by
  obtain ⟨i0, hi, hz0, hz1, hz2⟩ := info_parts Try.info5
  refine wpList_plain hg fun K hK' => ?_
  subst hL
  subst hC
  have hrun := run_make (P := Try.prog) w 36 5 i0 (.int .u8 0) Try.underlying36 hi hz0 kl kc (n : Int) (n : Int) (by omega) (by omega) (by rw [hz2]; omega) (by omega)
  unfold Oper.wp
  simp [execOp, hop, hl, hc, hrun, Result.andThen]
  refine hK' _ _ (hK _ ?_ ?_)
  · refine Row.at w 5 _ _ _ rfl ?_
    rw [hz1, Nat.mul_one]
    have : (madeCells #[Value.int .u8 0] n).toList = (List.replicate n (0 : By)).map B8 := by
      rw [toList_madeCells_one]; simp [B8]
    rw [← this]; rfl
  · exact (Below.refl _ _).alloc (Nat.le_refl _) _

theorem set4 (pre post : List Value) (a b c d x y z t : Value) (o : Nat) (ho : o = pre.length) :
    ((((pre ++ a :: b :: c :: d :: post).set o x).set (o + 1) y).set (o + 2) z).set (o + 3) t = pre ++ x :: y :: z :: t :: post := by
  subst ho
  simp
theorem Row.put4 {w : World} {g ty o : Nat} {pre post : List Value} {a b c d : Value} (h : Row w g ty (pre ++ a :: b :: c :: d :: post)) (ho : o = pre.length) (x : Wd) :
    Row (put4 w g o x) g ty (pre ++ ((wbytes x).map B8 ++ post)) := by
  have := (((h.set o (B8 ((x >>> 24).setWidth 8))).set (o + 1) (B8 ((x >>> 16).setWidth 8))).set (o + 2) (B8 ((x >>> 8).setWidth 8))).set (o + 3) (B8 (x.setWidth 8))
  rw [set4 pre post a b c d _ _ _ _ o ho] at this
  exact this
theorem put4_but (w : World) (g o : Nat) (x : Wd) : SameBut g w (put4 w g o x) :=
  (((SameBut.setCell g o _ w).trans (SameBut.setCell g (o + 1) _ _)).trans (SameBut.setCell g (o + 2) _ _)).trans (SameBut.setCell g (o + 3) _ _)
theorem Row.there {w : World} {g t : Nat} {cs : List Value} (h : Row w g t cs) (o n : Nat) (hl : o + n ≤ cs.length) : w.there g o n := by
  intro j hj
  refine ⟨?_, h.frozen _⟩
  rw [h.cell (o + j) (cs[o + j]'(by omega)) (List.getElem?_eq_getElem (by omega))]; rfl

theorem lenBytes_of (n : Nat) : wbytes (BitVec.ofNat 32 (8 * n / 4294967296)) ++ wbytes (BitVec.ofNat 32 (8 * n)) = lenBytes n := by
  have h : ∀ (k s : Nat), s ≤ 24 → ((BitVec.ofNat 32 k >>> s).setWidth 8 : By) = BitVec.ofNat 8 (k / 2 ^ s) := by
    intro k s hs
    apply BitVec.eq_of_toNat_eq
    rw [BitVec.toNat_setWidth, BitVec.toNat_ushiftRight, BitVec.toNat_ofNat, BitVec.toNat_ofNat, Nat.shiftRight_eq_div_pow]
    have e : (2 : Nat) ^ 32 = 2 ^ s * 2 ^ (32 - s) := by rw [← Nat.pow_add]; congr 1; omega
    rw [e, Nat.mod_mul_right_div_self]
    have e2 : (2 : Nat) ^ (32 - s) = 2 ^ 8 * 2 ^ (24 - s) := by rw [← Nat.pow_add]; congr 1; omega
    rw [e2, Nat.mod_mul_right_mod]
  have h0 : ∀ k : Nat, ((BitVec.ofNat 32 k).setWidth 8 : By) = BitVec.ofNat 8 k := by
    intro k
    apply BitVec.eq_of_toNat_eq
    rw [BitVec.toNat_setWidth, BitVec.toNat_ofNat, BitVec.toNat_ofNat]
    omega
  simp only [wbytes, lenBytes, h0, h _ 24 (by omega), h _ 16 (by omega), h _ 8 (by omega), List.cons_append, List.nil_append, Nat.div_div_eq_div_mul, Nat.reducePow, Nat.reduceMul]

set_option maxHeartbeats 1000000 in
set_option maxRecDepth 100000 in
theorem ending_any (n : Nat) (hn : n < 1152921504606846976) (w : World) :
    Calls Try.prog 47 #[.int .u64 (n : Int)] w fun e w' => e = .returned (.slice (some ⟨w.heap.size, 0, none⟩) (9 + zerosOf n) (9 + zerosOf n)) ∧ Lies w' w.heap.size 0 (ending n) ∧ Below w.heap.size w w' := by
  have hz : zerosOf n ≤ 63 := by unfold zerosOf; omega
  have hzz : (119 - (n : Int) % 64) % 64 = (zerosOf n : Int) := by unfold zerosOf; omega
  have HE : Hid (ending n = 128#8 :: (List.replicate (zerosOf n) 0 ++ (wbytes (BitVec.ofNat 32 (8 * n / 4294967296)) ++ wbytes (BitVec.ofNat 32 (8 * n))))) := by
    show _ = _
    rw [lenBytes_of]; rfl
  have hel : Hid ((ending n).length = 9 + zerosOf n) := ending_len n
  have j1 : IntKind.u64.wrap (8 * (n : Int)) = ((8 * n : Nat) : Int) := by rw [IntKind.wrap_u64]; omega
  have j2 : ((8 * n : Nat) : Int) / (4294967296 : Int) % (4294967296 : Int) = ((BitVec.ofNat 32 (8 * n / 4294967296)).toNat : Int) := by rw [BitVec.toNat_ofNat]; omega
  have j3 : ((8 * n : Nat) : Int) % (4294967296 : Int) = ((BitVec.ofNat 32 (8 * n)).toNat : Int) := by rw [BitVec.toNat_ofNat]; omega
  generalize BitVec.ofNat 32 (8 * n / 4294967296) = hi at *
  generalize BitVec.ofNat 32 (8 * n) = lo at *
  generalize 8 * n = E at *
  generalize zerosOf n = z at *
  clear hn
  have i1 : (1 : Int) + (z : Int) ≤ (9 + z : Nat) := by omega
  have i2 : (0 : Int) ≤ 1 + (z : Int) := by omega
  go_enter Try.func47, Try.ntmps47
  go_wp2_with (first | (refine wpList_make_Row rfl _ _ rfl .u64 .u64 _ _ (9 + z) rfl rfl (by omega) (by omega) (by omega) ?_; intro w1 r1 hb1; have c0 := r1.cell 0 (B8 0) (by simp [List.getElem?_replicate]); have f0 := r1.frozen 0))
  have r2 := r1.set 0 (.int .u8 128)
  have eL : ((List.replicate (9 + z) (0 : By)).map B8).set 0 (.int .u8 128) = ((128#8 :: List.replicate z 0).map B8) ++ B8 0 :: B8 0 :: B8 0 :: B8 0 :: [B8 0, B8 0, B8 0, B8 0] := by
    have e1 : List.replicate (9 + z) (0 : By) = 0 :: (List.replicate z 0 ++ List.replicate 8 0) := by
      rw [List.replicate_append_replicate, ← List.replicate_succ]; congr 1; omega
    rw [e1]
    simp [B8, List.replicate_succ]
  rw [eL] at r2
  have bl2 : Below w.heap.size w (w1.setCell ⟨w.heap.size, 0, none⟩ (.int .u8 128)) := hb1.setCell (Nat.le_refl _) _
  clear eL c0 f0 r1 hb1
  refine (putWord_any hi w.heap.size (1 + z) _ _ _ (by omega) (r2.there (1 + z) 4 (by simp; omega))).mono ?_
  rintro e w2 ⟨rfl, hw2⟩
  have r3 := r2.put4 (o := 1 + z) (by simp; omega) hi
  have bl3 := (put4_but (w1.setCell ⟨w.heap.size, 0, none⟩ (.int .u8 128)) w.heap.size (1 + z) hi).below bl2 (Nat.le_refl _)
  rw [← hw2] at r3 bl3
  clear hw2 r2 bl2
  have r3' : Row w2 w.heap.size 5 ((((128#8 :: List.replicate z 0) ++ wbytes hi).map B8) ++ B8 0 :: B8 0 :: B8 0 :: B8 0 :: []) := by
    simpa using r3
  have i3 : (0 : Int) ≤ 1 + (z : Int) + 4 := by omega
  have i4 : (1 : Int) + (z : Int) + 4 ≤ (9 + z : Nat) := by omega
  go_wp2_with fail
  refine (putWord_any lo w.heap.size (1 + z + 4) _ _ _ (by omega) (r3'.there (1 + z + 4) 4 (by simp [wbytes]; omega))).mono ?_
  rintro e w3 ⟨rfl, hw3⟩
  have r4 := r3'.put4 (o := 1 + z + 4) (by simp [wbytes]; omega) lo
  have bl4 := (put4_but w2 w.heap.size (1 + z + 4) lo).below bl3 (Nat.le_refl _)
  rw [← hw3] at r4 bl4
  clear hw3 r3 r3' bl3
  go_wp2
  go_ret
  refine ⟨rfl, ?_, bl4⟩
  have r5 : Row w3 w.heap.size 5 ((ending n).map B8) := by
    rw [HE.out]; simpa using r4
  intro j hj
  rw [Nat.zero_add]
  refine r5.cell j _ ?_
  simp [hj]
end Go.Proofs.Ytepafpnpmpijeaa
