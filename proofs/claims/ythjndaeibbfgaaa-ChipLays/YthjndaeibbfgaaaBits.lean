import Derived.WalkKit
/-! Plain facts on words of 32 bits: the walk's forms, and the words that they are. -/
namespace Go.Proofs.Ythjndaeibbfgaaa
open Go.RowKit

/-- A word, turned to the right. -/
def rr (x : BitVec 32) (n : Nat) : BitVec 32 := x >>> n ||| x <<< (32 - n)

theorem bv_ofInt (x : BitVec 32) : BitVec.ofInt 32 (x.toNat : Int) = x := by
  rw [BitVec.ofInt_natCast, BitVec.ofNat_toNat, BitVec.setWidth_eq]

theorem bv_lt (x : BitVec 32) : x.toNat < 4294967296 := x.isLt

theorem bits_or_bv (x y : BitVec 32) : bits .or .u32 (x.toNat : Int) (y.toNat : Int) = ((x ||| y).toNat : Int) := by
  show IntKind.u32.wrap ((BitVec.ofInt 32 (x.toNat : Int) ||| BitVec.ofInt 32 (y.toNat : Int)).toNat : Int) = _
  rw [bv_ofInt, bv_ofInt, IntKind.wrap_u32']
  have := bv_lt (x ||| y)
  omega
theorem bits_xor_bv (x y : BitVec 32) : bits .xor .u32 (x.toNat : Int) (y.toNat : Int) = ((x ^^^ y).toNat : Int) := by
  show IntKind.u32.wrap ((BitVec.ofInt 32 (x.toNat : Int) ^^^ BitVec.ofInt 32 (y.toNat : Int)).toNat : Int) = _
  rw [bv_ofInt, bv_ofInt, IntKind.wrap_u32']
  have := bv_lt (x ^^^ y)
  omega
theorem bits_and_bv (x y : BitVec 32) : bits .and .u32 (x.toNat : Int) (y.toNat : Int) = ((x &&& y).toNat : Int) := by
  show IntKind.u32.wrap ((BitVec.ofInt 32 (x.toNat : Int) &&& BitVec.ofInt 32 (y.toNat : Int)).toNat : Int) = _
  rw [bv_ofInt, bv_ofInt, IntKind.wrap_u32']
  have := bv_lt (x &&& y)
  omega
theorem add_bv (x y : BitVec 32) : ((x.toNat : Int) + (y.toNat : Int)) % 4294967296 = ((x + y).toNat : Int) := by
  rw [BitVec.toNat_add]
  omega
theorem wrap_add_bv (x y : BitVec 32) : IntKind.u32.wrap ((x.toNat : Int) + (y.toNat : Int)) = ((x + y).toNat : Int) := by
  rw [IntKind.wrap_u32', add_bv]
theorem shr_bv (x : BitVec 32) (n : Nat) : (x.toNat : Int) / 2 ^ n = ((x >>> n).toNat : Int) := by
  rw [BitVec.toNat_ushiftRight, Nat.shiftRight_eq_div_pow]
  simp
theorem shl_bv (x : BitVec 32) (n : Nat) : (x.toNat : Int) * 2 ^ n % 4294967296 = ((x <<< n).toNat : Int) := by
  rw [BitVec.toNat_shiftLeft, Nat.shiftLeft_eq]
  simp

theorem and31 (n : Nat) (h1 : 1 ≤ n) (h2 : n ≤ 31) : bits .and .u64 (IntKind.u64.wrap (-(n : Int))) 31 = 32 - (n : Int) := by
  have e : IntKind.u64.wrap (-(n : Int)) = ((18446744073709551616 - n : Nat) : Int) := by
    rw [IntKind.wrap_u64]; omega
  rw [e]
  rw [u64_and _ 31 (by omega) (by omega) (by omega) (by omega)]
  have e2 : ((18446744073709551616 - n : Nat) : Int).toNat &&& (31 : Int).toNat = (18446744073709551616 - n) % 2 ^ 5 := by
    rw [Int.toNat_natCast]
    exact Nat.and_two_pow_sub_one_eq_mod _ 5
  rw [e2]
  omega

theorem rr_of (x : BitVec 32) (n : Nat) : bits .or .u32 ((x.toNat : Int) / 2 ^ n) ((x.toNat : Int) * 2 ^ (32 - n) % 4294967296) = ((rr x n).toNat : Int) := by
  rw [shr_bv, shl_bv, bits_or_bv]; rfl
theorem rr_of' (x : BitVec 32) (n : Nat) (h1 : 1 ≤ n) (h2 : n ≤ 31) : bits .or .u32 ((x.toNat : Int) * 2 ^ (32 - n) % 4294967296) ((x.toNat : Int) / 2 ^ (32 - (32 - n))) = ((rr x n).toNat : Int) := by
  rw [shr_bv, shl_bv, bits_or_bv, show 32 - (32 - n) = n by omega, BitVec.or_comm]; rfl

theorem b8_lt (a : BitVec 8) : a.toNat < 256 := a.isLt
theorem byte_shl (a : BitVec 8) (n : Nat) (h : n ≤ 24) : (a.toNat : Int) * 2 ^ n = ((a.setWidth 32 <<< n).toNat : Int) := by
  rw [← shl_bv]
  have h1 : ((a.setWidth 32).toNat : Int) = (a.toNat : Int) := by
    rw [BitVec.toNat_setWidth]; have := b8_lt a; omega
  rw [h1]
  have h2 : (2 : Int) ^ n ≤ 2 ^ 24 := by
    have := Nat.pow_le_pow_right (n := 2) (by omega) h
    exact_mod_cast this
  have h0 : (0 : Int) ≤ 2 ^ n := by
    have := Nat.zero_le (2 ^ n)
    exact_mod_cast this
  have h3 := b8_lt a
  have h4 : (a.toNat : Int) * 2 ^ n ≤ 255 * 2 ^ 24 := Int.mul_le_mul (by omega) h2 h0 (by omega)
  have h5 : 0 ≤ (a.toNat : Int) * 2 ^ n := Int.mul_nonneg (by omega) h0
  omega
theorem byte_w32 (a : BitVec 8) : (a.toNat : Int) = ((a.setWidth 32).toNat : Int) := by
  rw [BitVec.toNat_setWidth]; have := b8_lt a; omega
theorem word_form (a b c d : BitVec 8) : bits .or .u32 (bits .or .u32 (bits .or .u32 ((a.toNat : Int) * 16777216) ((b.toNat : Int) * 65536)) ((c.toNat : Int) * 256)) (d.toNat : Int) =
    (((a.setWidth 32 <<< 24) ||| (b.setWidth 32 <<< 16) ||| (c.setWidth 32 <<< 8) ||| d.setWidth 32 : BitVec 32).toNat : Int) := by
  have e1 := byte_shl a 24 (by omega)
  have e2 := byte_shl b 16 (by omega)
  have e3 := byte_shl c 8 (by omega)
  simp only [Int.reducePow] at e1 e2 e3
  rw [e1, e2, e3, byte_w32 d, bits_or_bv, bits_or_bv, bits_or_bv]
theorem byte_of (x : BitVec 32) (n : Nat) : ((x.toNat : Int) / 2 ^ n) % 256 = (((x >>> n).setWidth 8).toNat : Int) := by
  rw [shr_bv, BitVec.toNat_setWidth]; omega

theorem i64_in (n : Int) (h0 : -9223372036854775808 ≤ n) (h1 : n < 9223372036854775808) : IntKind.i64.wrap n = n := by
  simp [IntKind.wrap, IntKind.bits, IntKind.signed]
  split <;> omega

theorem wn_form (x16 x15 x7 x2 : BitVec 32) : IntKind.u32.wrap (IntKind.u32.wrap (IntKind.u32.wrap ((x16.toNat : Int) + bits .xor .u32 (bits .xor .u32 ((rr x15 7).toNat : Int) ((rr x15 18).toNat : Int)) ((x15.toNat : Int) / 8)) + (x7.toNat : Int))
      + bits .xor .u32 (bits .xor .u32 ((rr x2 17).toNat : Int) ((rr x2 19).toNat : Int)) ((x2.toNat : Int) / 1024))
    = ((x16 + (rr x15 7 ^^^ rr x15 18 ^^^ x15 >>> 3) + x7 + (rr x2 17 ^^^ rr x2 19 ^^^ x2 >>> 10)).toNat : Int) := by
  have e1 := shr_bv x15 3
  have e2 := shr_bv x2 10
  simp only [Int.reducePow] at e1 e2
  rw [e1, e2, bits_xor_bv, bits_xor_bv, bits_xor_bv, bits_xor_bv, wrap_add_bv, wrap_add_bv, wrap_add_bv]

theorem ret_int {k : IntKind} {a b : Int} (h : a = b) : Ending.returned (.int k a) = .returned (.int k b) := by rw [h]

end Go.Proofs.Ythjndaeibbfgaaa
