import Derived.Test.YtjooabgjkjnhhaaDoorT24B

/-! The reference's token: head, May of a token. -/
namespace Go.Proofs.YtjooabgjkjnhhaaDoor
open Go.RowKit
set_option linter.unusedVariables false
set_option linter.unusedSimpArgs false

theorem natbeq (n m : Nat) : ((n : Int) == (m : Int)) = (n == m) := by rw [Bool.eq_iff_iff]; simp; omega
set_option maxHeartbeats 1000000 in
set_option maxRecDepth 100000 in
theorem r24head_any (i : Nat) (hi : i < 8) (c : By) (w : World) : Calls Tryd.prog 29 #[.int .i64 (i : Int), .int .u8 (c.toNat : Int)] w fun e w' => e = .returned (.bool (hd24 i c.toNat)) ∧ Below w.heap.size w w' := by
  have hb : Hid (Below w.heap.size w w) := Below.refl _ _
  generalize c.toNat = n at *
  match i, hi with
  | 0, _ => go_enter Tryd.func29, Tryd.ntmps29; go_wp2; go_ret; exact ⟨congrArg (fun b => Ending.returned (Value.bool b)) (natbeq n 80), hb.out⟩
  | 1, _ => go_enter Tryd.func29, Tryd.ntmps29; go_wp2; go_ret; exact ⟨congrArg (fun b => Ending.returned (Value.bool b)) (natbeq n 67), hb.out⟩
  | 2, _ => go_enter Tryd.func29, Tryd.ntmps29; go_wp2; go_ret; exact ⟨congrArg (fun b => Ending.returned (Value.bool b)) (natbeq n 84), hb.out⟩
  | 3, _ => go_enter Tryd.func29, Tryd.ntmps29; go_wp2; go_ret; exact ⟨congrArg (fun b => Ending.returned (Value.bool b)) (natbeq n 75), hb.out⟩
  | 4, _ => go_enter Tryd.func29, Tryd.ntmps29; go_wp2; go_ret; exact ⟨congrArg (fun b => Ending.returned (Value.bool b)) (natbeq n 1), hb.out⟩
  | 5, _ => go_enter Tryd.func29, Tryd.ntmps29; go_wp2; go_ret; exact ⟨by simp [hd24]; omega, hb.out⟩
  | 6, _ =>
    by_cases h : 1 ≤ n
    · have h' : (1 : Int) ≤ (n : Int) := by omega
      have hd : decide (1 ≤ n) = true := decide_eq_true h
      go_enter Tryd.func29, Tryd.ntmps29
      go_wp2
      go_ret
      exact ⟨by simp [hd24]; rw [Bool.eq_iff_iff]; simp; omega, hb.out⟩
    · obtain rfl : n = 0 := by omega
      go_enter Tryd.func29, Tryd.ntmps29
      go_wp2
      go_ret
      exact ⟨by simp [hd24], hb.out⟩
  | 7, _ => go_enter Tryd.func29, Tryd.ntmps29; go_wp2; go_ret; exact ⟨by simp [hd24]; omega, hb.out⟩

/-- Caveats in memory. -/
def CvsIn (W : World) (lo : Option Addr) (l : List Cv) : Prop := ∀ (i : Nat) (c : Cv), l[i]? = some c → ∃ B off, lo = some ⟨B, off, none⟩ ∧ B < W.heap.size ∧ W.rangeAt B (off + i * 5) (cvC c)
theorem CvsIn.keep {W W2 : World} {lo : Option Addr} {l : List Cv} (h : CvsIn W lo l) (hb : Below W.heap.size W W2) : CvsIn W2 lo l := fun i c hi => by
  obtain ⟨B, off, e, hlt, hr⟩ := h i c hi
  exact ⟨B, off, e, Nat.lt_of_lt_of_le hlt hb.size, fun j v hv => (hb.cell (p := ⟨B, off + i * 5 + j, none⟩) hlt).trans (hr j v hv)⟩
/-- A token's cells. -/
def tkC (key : Int) (io : Option Addr) (n ic : Nat) (lo : Option Addr) (m lc : Nat) (tag : List By) : List Value := [.int .i64 key, .slice io n ic, .slice lo m lc] ++ tag.map B8
theorem tkC_len {key : Int} {io : Option Addr} {n ic : Nat} {lo : Option Addr} {m lc : Nat} {tag : List By} (h : tag.length = 32) : (tkC key io n ic lo m lc tag).length = 35 := by simp [tkC, h]

set_option maxHeartbeats 4000000 in
set_option maxRecDepth 100000 in
theorem r24tMay_any (key : Int) (id : List By) (io : Option Addr) (ic : Nat) (l : List Cv) (lo : Option Addr) (lc : Nat) (tag : List By) (w : World) (hl : CvsIn w lo l) (hz : ∀ c ∈ l, c.z < 18446744073709551616) :
    Calls Tryd.prog 22 #[.agg (tkC key io id.length ic lo l.length lc tag).toArray] w fun e w' => e = .returned (.bool (tkMay ⟨key, id, l, tag⟩)) ∧ Below w.heap.size w w' := by
  obtain ⟨T, hT⟩ : ∃ T, T = tkC key io id.length ic lo l.length lc tag := ⟨_, rfl⟩
  have t0 : T[0]? = some (.int .i64 key) := by rw [hT]; rfl
  have t1 : T[1]? = some (.slice io id.length ic) := by rw [hT]; rfl
  have t2 : T[2]? = some (.slice lo l.length lc) := by rw [hT]; rfl
  rw [← hT]
  obtain ⟨W1, hW1⟩ : ∃ W1, W1 = w.alloc (.cells T.toArray 28) := ⟨_, rfl⟩
  have r1 : Row W1 w.heap.size 28 T := by rw [hW1]; exact Row.at w _ _ _ _ rfl rfl
  have b1 : Below w.heap.size w W1 := by rw [hW1]; exact (Below.refl _ _).alloc (Nat.le_refl _) _
  have c0 := r1.cell 0 _ t0
  have c1 := r1.cell 1 _ t1
  have c2 := r1.cell 2 _ t2
  have HB : Hid (Below w.heap.size w W1) := b1
  have C2 : Hid (∀ W, Below W1.heap.size W1 W → W.cell? ⟨w.heap.size, 2, none⟩ = some (.slice lo l.length lc)) := fun W h => (r1.below h r1.lt).cell 2 _ t2
  have HL : Hid (∀ W, Below W1.heap.size W1 W → CvsIn W lo l) := fun W h => hl.keep (b1.trans (h.mono b1.size))
  have HZ : Hid (∀ c ∈ l, c.z < 18446744073709551616) := hz
  clear hl r1 b1 hT t0 t1 t2 hz
  generalize hn : id.length = n at *
  have HN : Hid (id.length = n) := hn
  clear hn
  go_enter Tryd.func22, Tryd.ntmps22
  by_cases h1 : key < 0
  · go_wp2_with (first | (rw [← hW1]; clear hW1))
    go_ret
    exact ⟨by simp [tkMay, HN.out]; omega, HB.out⟩
  by_cases h2 : 63 < key
  · go_wp2_with (first | (rw [← hW1]; clear hW1))
    go_ret
    exact ⟨by simp [tkMay, HN.out]; omega, HB.out⟩
  by_cases h3 : n < 1
  · have h3' : (n : Int) < 1 := by omega
    have d3 : decide (n < 1) = true := decide_eq_true h3
    go_wp2_with (first | (rw [← hW1]; clear hW1))
    go_ret
    exact ⟨by simp [tkMay, HN.out]; omega, HB.out⟩
  have h3' : ¬ (n : Int) < 1 := by omega
  have d3 : decide (n < 1) = false := decide_eq_false h3
  by_cases h4 : 64 < n
  · have h4' : (64 : Int) < (n : Int) := by omega
    have d4 : decide (64 < n) = true := decide_eq_true h4
    go_wp2_with (first | (rw [← hW1]; clear hW1))
    go_ret
    exact ⟨by simp [tkMay, HN.out]; omega, HB.out⟩
  have h4' : ¬ (64 : Int) < (n : Int) := by omega
  have d4 : decide (64 < n) = false := decide_eq_false h4
  by_cases h5 : 32 < l.length
  · have h5' : (32 : Int) < (l.length : Int) := by omega
    have d5 : decide (32 < l.length) = true := decide_eq_true h5
    go_wp2_with (first | (rw [← hW1]; clear hW1))
    go_ret
    exact ⟨by simp [tkMay, HN.out]; omega, HB.out⟩
  have h5' : ¬ (32 : Int) < (l.length : Int) := by omega
  have d5 : decide (32 < l.length) = false := decide_eq_false h5
  have h1' : ¬ key < 0 := h1
  go_wp2_with (first | (rw [← hW1]; clear hW1))
  go_loopw [3] (fun iv wr => ∃ i : Nat, i ≤ l.length ∧ iv = .int .i64 i ∧ Hid (Below W1.heap.size W1 wr ∧ ∀ c ∈ l.take i, cvMay c = true)) (fun iv _ => l.length - (intOf iv).toNat)
  case atStart => exact ⟨0, by omega, rfl, Below.refl _ _, fun c hc => by simp at hc⟩
  case round =>
    obtain ⟨i, hi, rfl, HR⟩ := hrel
    have c2' := C2.out _ HR.out.1
    by_cases hlt : i < l.length
    · have y0 : (0 : Int) ≤ (i : Int) := by omega
      have y1 : (i : Int) < (l.length : Int) := by omega
      have z1 : IntKind.i64.wrap ((i : Int) + 1) = (i : Int) + 1 := i64_in _ (by omega) (by omega)
      obtain ⟨c, hc⟩ : ∃ c, l[i]? = some c := ⟨_, List.getElem?_eq_getElem hlt⟩
      obtain ⟨B, off, rfl, hB, hr⟩ := HL.out _ HR.out.1 i c hc
      have F := r24cMay_any c.k c.s c.f c.t c.z (HZ.out c (List.mem_of_getElem? hc)) wr
      have lY : (cvC c).length = 5 := rfl
      have HT : Hid (l.take (i + 1) = l.take i ++ [c]) := by show _ = _; rw [List.take_add_one, hc]; rfl
      have HM : Hid (c ∈ l) := List.mem_of_getElem? hc
      obtain ⟨q, hq⟩ : ∃ q, q = cvMay c := ⟨_, rfl⟩
      have HQ : Hid (q = cvMay c) := hq
      have F2 : Hid (Calls Tryd.prog 31 #[.agg (cvC c).toArray] wr fun e w' => e = .returned (.bool q) ∧ Below wr.heap.size wr w') := by rw [hq]; exact F
      clear F hq hc
      cases q with
      | true =>
        go_wp2_with (first
          | (have hz := hr; clear hz; refine wpList_load_mid rfl 72 (.tmp 40) rfl B (off + i * 5) rfl (cvC c) _ hr Tryd.underlying72 rfl (by kernel_rfl) ?_; clear hr c2')
          | (go_at_call 31; refine F2.out.mono ?_; rintro e w2 ⟨rfl, hb2⟩; have HF : Hid (Below W1.heap.size W1 w2 ∧ ∀ c ∈ l.take (i + 1), cvMay c = true) := ⟨HR.out.1.trans (hb2.mono HR.out.1.size), fun d hd => (by rw [HT.out] at hd; rcases List.mem_append.1 hd with h | h; exact HR.out.2 d h; rw [List.mem_singleton.1 h]; exact HQ.out.symm)⟩; clear hb2 F2 HR))
        exact ⟨⟨i + 1, by omega, by go_num, HF⟩, by simp [intOf]; omega⟩
      | false =>
        go_wp2_with (first
          | (have hz := hr; clear hz; refine wpList_load_mid rfl 72 (.tmp 40) rfl B (off + i * 5) rfl (cvC c) _ hr Tryd.underlying72 rfl (by kernel_rfl) ?_; clear hr c2')
          | (go_at_call 31; refine F2.out.mono ?_; rintro e w2 ⟨rfl, hb2⟩; have HF : Hid (Below w.heap.size w w2) := HB.out.trans ((HR.out.1.trans (hb2.mono HR.out.1.size)).mono HB.out.size); clear hb2 F2 HR))
        go_ret
        refine ⟨?_, HF.out⟩
        have : tkMay ⟨key, id, l, tag⟩ = false := by
          unfold tkMay
          rw [Bool.and_eq_false_iff]
          right
          rw [List.all_eq_false]
          exact ⟨c, HM.out, by rw [← HQ.out]; simp⟩
        rw [this]
        rfl
    · obtain rfl : i = l.length := by omega
      have y1 : ¬ ((l.length : Nat) : Int) < (l.length : Int) := by omega
      have HF : Hid (Below w.heap.size w wr) := HB.out.trans (HR.out.1.mono HB.out.size)
      have HM : Hid (tkMay ⟨key, id, l, tag⟩ = true) := by
        show tkMay ⟨key, id, l, tag⟩ = true
        unfold tkMay
        rw [Bool.and_eq_true, decide_eq_true_eq, List.all_eq_true]
        refine ⟨?_, fun c hc => HR.out.2 c (by rw [List.take_length]; exact hc)⟩
        dsimp only
        rw [HN.out]
        omega
      clear HR
      go_wp2
      go_ret
      exact ⟨by rw [HM.out]; rfl, HF.out⟩
end Go.Proofs.YtjooabgjkjnhhaaDoor


/-! The reference's token: number. -/
namespace Go.Proofs.YtjooabgjkjnhhaaDoor
open Go.RowKit
set_option linter.unusedVariables false

def numTo (p : List By) : Nat → Nat
  | 0 => 0
  | k + 1 => numTo p k + (p.getD k 0).toNat * 2 ^ (8 * k)
theorem numTo_8 (p : List By) : numTo p 8 = num8 p := by simp [numTo, num8]
theorem numTo_lt (p : List By) : ∀ k, numTo p k < 2 ^ (8 * k)
  | 0 => by simp [numTo]
  | k + 1 => by
    have h := numTo_lt p k
    have hb := (p.getD k 0).isLt
    rw [numTo, show 8 * (k + 1) = 8 * k + 8 by omega, Nat.pow_add]
    have h2 : (p.getD k 0).toNat * 2 ^ (8 * k) ≤ 255 * 2 ^ (8 * k) := Nat.mul_le_mul_right _ (by omega)
    omega
theorem or_num (p : List By) (k : Nat) (hk : k < 8) : bits .or .u64 (numTo p k : Int) ((((p.getD k 0).toNat : Nat) : Int) * 2 ^ (8 * k) % 18446744073709551616) = (numTo p (k + 1) : Int) := by
  have h0 := numTo_lt p k
  have h1 := numTo_lt p (k + 1)
  have hb := (p.getD k 0).isLt
  have hx : (p.getD k 0).toNat * 2 ^ (8 * k) < 18446744073709551616 := by
    have h2 : (p.getD k 0).toNat * 2 ^ (8 * k) ≤ numTo p (k + 1) := by rw [numTo]; omega
    have h3 : 2 ^ (8 * (k + 1)) ≤ 2 ^ 64 := Nat.pow_le_pow_right (by omega) (by omega)
    have h4 : (2 : Nat) ^ 64 = 18446744073709551616 := rfl
    omega
  have ha : numTo p k < 18446744073709551616 := by
    have h3 : 2 ^ (8 * k) ≤ 2 ^ 64 := Nat.pow_le_pow_right (by omega) (by omega)
    have h4 : (2 : Nat) ^ 64 = 18446744073709551616 := rfl
    omega
  have e1 : ((((p.getD k 0).toNat : Nat) : Int) * 2 ^ (8 * k) % 18446744073709551616) = (((p.getD k 0).toNat * 2 ^ (8 * k) : Nat) : Int) := by
    rw [show ((((p.getD k 0).toNat : Nat) : Int) * 2 ^ (8 * k)) = (((p.getD k 0).toNat * 2 ^ (8 * k) : Nat) : Int) by simp [Int.natCast_mul, Int.natCast_pow]]
    omega
  rw [e1]
  have e2 : numTo p k ||| (p.getD k 0).toNat * 2 ^ (8 * k) = numTo p (k + 1) := by
    rw [numTo, Nat.or_comm, ← Nat.shiftLeft_eq, ← Nat.shiftLeft_add_eq_or_of_lt h0, Nat.add_comm]
  generalize (p.getD k 0).toNat * 2 ^ (8 * k) = y at *
  show IntKind.u64.wrap ((BitVec.ofInt 64 (numTo p k : Int) ||| BitVec.ofInt 64 (y : Int)).toNat : Int) = _
  have e3 : (BitVec.ofInt 64 (numTo p k : Int) ||| BitVec.ofInt 64 (y : Int)).toNat = numTo p (k + 1) := by
    rw [BitVec.toNat_or]
    have q1 : (BitVec.ofInt 64 (numTo p k : Int)).toNat = numTo p k := by rw [BitVec.toNat_ofInt]; omega
    have q2 : (BitVec.ofInt 64 (y : Int)).toNat = y := by rw [BitVec.toNat_ofInt]; omega
    rw [q1, q2, e2]
  rw [e3]
  have : numTo p (k + 1) < 18446744073709551616 := by
    rw [← e3]; exact (BitVec.isLt _)
  simp [IntKind.wrap, IntKind.bits, IntKind.signed]
  omega

theorem wrapU64 (z : Int) : IntKind.u64.wrap z = z % 18446744073709551616 := by simp [IntKind.wrap, IntKind.bits, IntKind.signed]
set_option maxHeartbeats 1000000 in
set_option maxRecDepth 100000 in
theorem r24number_any (B off n cap : Nat) (p : List By) (h8 : 8 ≤ n) (w : World) (hb : ∀ j, j < 8 → w.cell? ⟨B, off + j, none⟩ = some (.int .u8 ((p.getD j 0).toNat : Int))) :
    Calls Tryd.prog 30 #[.slice (some ⟨B, off, none⟩) n cap] w fun e w' => e = .returned (.int .u64 (num8 p)) ∧ w' = w := by
  have HB : Hid (∀ j, j < 8 → w.cell? ⟨B, off + j, none⟩ = some (.int .u8 ((p.getD j 0).toNat : Int))) := hb
  have H0 : Hid (numTo p 0 = 0) := rfl
  clear hb
  go_enter Tryd.func30, Tryd.ntmps30
  go_wp2
  go_loopw [3, 4] (fun nv iv wr => ∃ i : Nat, i ≤ 8 ∧ nv = .int .u64 (numTo p i) ∧ iv = .int .i64 i ∧ wr = w) (fun _ iv _ => 8 - (intOf iv).toNat)
  case atStart => exact ⟨0, by omega, rfl, rfl, rfl⟩
  case round =>
    obtain ⟨i, hi, rfl, rfl, rfl⟩ := hrel
    by_cases hlt : i < 8
    · have y0 : (0 : Int) ≤ (i : Int) := by omega
      have y1 : (i : Int) < 8 := by omega
      have y2 : (i : Int) < (n : Int) := by omega
      have z1 : IntKind.i64.wrap (8 * (i : Int)) = 8 * (i : Int) := i64_in _ (by omega) (by omega)
      have c := HB.out i hlt
      have HO : Hid (bits .or .u64 (numTo p i : Int) ((((p.getD i 0).toNat : Nat) : Int) * 2 ^ (8 * i) % 18446744073709551616) = (numTo p (i + 1) : Int)) := or_num p i hlt
      have ho := HO.out
      go_wp2
      exact ⟨⟨i + 1, by omega, by rw [wrapU64]; exact congrArg _ ho, by go_num, by first | rfl | trivial⟩, by simp [intOf]; omega⟩
    · obtain rfl : i = 8 := by omega
      have y1 : ¬ ((8 : Nat) : Int) < 8 := by omega
      have HF : Hid (numTo p 8 = num8 p) := numTo_8 p
      go_wp2
      go_ret
      exact ⟨by rw [← HF.out]; rfl, rfl⟩
end Go.Proofs.YtjooabgjkjnhhaaDoor
