import Derived.WalkKit
import Derived.Laws.Rows
import Derived.Deep.Draws

/-! Plain facts on words of 32 bits: the walk's forms, and the words that they are. -/
namespace Go.Proofs.YtdfbfheceobboaaDoor
open Go.RowKit

/-- A word, turned to the right. -/
def rr (x : BitVec 32) (n : Nat) : BitVec 32 := x >>> n ||| x <<< (32 - n)

theorem bv_ofInt (x : BitVec 32) : BitVec.ofInt 32 (x.toNat : Int) = x := by
  rw [BitVec.ofInt_natCast, BitVec.ofNat_toNat, BitVec.setWidth_eq]

theorem bv_lt (x : BitVec 32) : x.toNat < 4294967296 := x.isLt

theorem bits_or_bv (x y : BitVec 32) : bits .or .u32 (x.toNat : Int) (y.toNat : Int) = ((x ||| y).toNat : Int) := by
  show IntKind.u32.wrap ((BitVec.ofInt 32 (x.toNat : Int) ||| BitVec.ofInt 32 (y.toNat : Int)).toNat : Int) = _
  rw [bv_ofInt, bv_ofInt, IntKind.wrap_u32']
  have := bv_lt (x ||| y)
  omega
theorem bits_xor_bv (x y : BitVec 32) : bits .xor .u32 (x.toNat : Int) (y.toNat : Int) = ((x ^^^ y).toNat : Int) := by
  show IntKind.u32.wrap ((BitVec.ofInt 32 (x.toNat : Int) ^^^ BitVec.ofInt 32 (y.toNat : Int)).toNat : Int) = _
  rw [bv_ofInt, bv_ofInt, IntKind.wrap_u32']
  have := bv_lt (x ^^^ y)
  omega
theorem bits_and_bv (x y : BitVec 32) : bits .and .u32 (x.toNat : Int) (y.toNat : Int) = ((x &&& y).toNat : Int) := by
  show IntKind.u32.wrap ((BitVec.ofInt 32 (x.toNat : Int) &&& BitVec.ofInt 32 (y.toNat : Int)).toNat : Int) = _
  rw [bv_ofInt, bv_ofInt, IntKind.wrap_u32']
  have := bv_lt (x &&& y)
  omega
theorem add_bv (x y : BitVec 32) : ((x.toNat : Int) + (y.toNat : Int)) % 4294967296 = ((x + y).toNat : Int) := by
  rw [BitVec.toNat_add]
  omega
theorem wrap_add_bv (x y : BitVec 32) : IntKind.u32.wrap ((x.toNat : Int) + (y.toNat : Int)) = ((x + y).toNat : Int) := by
  rw [IntKind.wrap_u32', add_bv]
theorem shr_bv (x : BitVec 32) (n : Nat) : (x.toNat : Int) / 2 ^ n = ((x >>> n).toNat : Int) := by
  rw [BitVec.toNat_ushiftRight, Nat.shiftRight_eq_div_pow]
  simp
theorem shl_bv (x : BitVec 32) (n : Nat) : (x.toNat : Int) * 2 ^ n % 4294967296 = ((x <<< n).toNat : Int) := by
  rw [BitVec.toNat_shiftLeft, Nat.shiftLeft_eq]
  simp

theorem and31 (n : Nat) (h1 : 1 ≤ n) (h2 : n ≤ 31) : bits .and .u64 (IntKind.u64.wrap (-(n : Int))) 31 = 32 - (n : Int) := by
  have e : IntKind.u64.wrap (-(n : Int)) = ((18446744073709551616 - n : Nat) : Int) := by
    rw [IntKind.wrap_u64]; omega
  rw [e]
  rw [u64_and _ 31 (by omega) (by omega) (by omega) (by omega)]
  have e2 : ((18446744073709551616 - n : Nat) : Int).toNat &&& (31 : Int).toNat = (18446744073709551616 - n) % 2 ^ 5 := by
    rw [Int.toNat_natCast]
    exact Nat.and_two_pow_sub_one_eq_mod _ 5
  rw [e2]
  omega

theorem rr_of' (x : BitVec 32) (n : Nat) (h1 : 1 ≤ n) (h2 : n ≤ 31) : bits .or .u32 ((x.toNat : Int) * 2 ^ (32 - n) % 4294967296) ((x.toNat : Int) / 2 ^ (32 - (32 - n))) = ((rr x n).toNat : Int) := by
  rw [shr_bv, shl_bv, bits_or_bv, show 32 - (32 - n) = n by omega, BitVec.or_comm]; rfl

theorem b8_lt (a : BitVec 8) : a.toNat < 256 := a.isLt
theorem byte_shl (a : BitVec 8) (n : Nat) (h : n ≤ 24) : (a.toNat : Int) * 2 ^ n = ((a.setWidth 32 <<< n).toNat : Int) := by
  rw [← shl_bv]
  have h1 : ((a.setWidth 32).toNat : Int) = (a.toNat : Int) := by
    rw [BitVec.toNat_setWidth]; have := b8_lt a; omega
  rw [h1]
  have h2 : (2 : Int) ^ n ≤ 2 ^ 24 := by
    have := Nat.pow_le_pow_right (n := 2) (by omega) h
    exact_mod_cast this
  have h0 : (0 : Int) ≤ 2 ^ n := by
    have := Nat.zero_le (2 ^ n)
    exact_mod_cast this
  have h3 := b8_lt a
  have h4 : (a.toNat : Int) * 2 ^ n ≤ 255 * 2 ^ 24 := Int.mul_le_mul (by omega) h2 h0 (by omega)
  have h5 : 0 ≤ (a.toNat : Int) * 2 ^ n := Int.mul_nonneg (by omega) h0
  omega
theorem byte_w32 (a : BitVec 8) : (a.toNat : Int) = ((a.setWidth 32).toNat : Int) := by
  rw [BitVec.toNat_setWidth]; have := b8_lt a; omega
theorem word_form (a b c d : BitVec 8) : bits .or .u32 (bits .or .u32 (bits .or .u32 ((a.toNat : Int) * 16777216) ((b.toNat : Int) * 65536)) ((c.toNat : Int) * 256)) (d.toNat : Int) =
    (((a.setWidth 32 <<< 24) ||| (b.setWidth 32 <<< 16) ||| (c.setWidth 32 <<< 8) ||| d.setWidth 32 : BitVec 32).toNat : Int) := by
  have e1 := byte_shl a 24 (by omega)
  have e2 := byte_shl b 16 (by omega)
  have e3 := byte_shl c 8 (by omega)
  simp only [Int.reducePow] at e1 e2 e3
  rw [e1, e2, e3, byte_w32 d, bits_or_bv, bits_or_bv, bits_or_bv]
theorem byte_of (x : BitVec 32) (n : Nat) : ((x.toNat : Int) / 2 ^ n) % 256 = (((x >>> n).setWidth 8).toNat : Int) := by
  rw [shr_bv, BitVec.toNat_setWidth]; omega

theorem i64_in (n : Int) (h0 : -9223372036854775808 ≤ n) (h1 : n < 9223372036854775808) : IntKind.i64.wrap n = n := by
  simp [IntKind.wrap, IntKind.bits, IntKind.signed]
  split <;> omega

theorem wn_form (x16 x15 x7 x2 : BitVec 32) : IntKind.u32.wrap (IntKind.u32.wrap (IntKind.u32.wrap ((x16.toNat : Int) + bits .xor .u32 (bits .xor .u32 ((rr x15 7).toNat : Int) ((rr x15 18).toNat : Int)) ((x15.toNat : Int) / 8)) + (x7.toNat : Int))
      + bits .xor .u32 (bits .xor .u32 ((rr x2 17).toNat : Int) ((rr x2 19).toNat : Int)) ((x2.toNat : Int) / 1024))
    = ((x16 + (rr x15 7 ^^^ rr x15 18 ^^^ x15 >>> 3) + x7 + (rr x2 17 ^^^ rr x2 19 ^^^ x2 >>> 10)).toNat : Int) := by
  have e1 := shr_bv x15 3
  have e2 := shr_bv x2 10
  simp only [Int.reducePow] at e1 e2
  rw [e1, e2, bits_xor_bv, bits_xor_bv, bits_xor_bv, bits_xor_bv, wrap_add_bv, wrap_add_bv, wrap_add_bv]

theorem ret_int {k : IntKind} {a b : Int} (h : a = b) : Ending.returned (.int k a) = .returned (.int k b) := by rw [h]

end Go.Proofs.YtdfbfheceobboaaDoor


/-! The document's SHA-256 on lists of bytes, and small facts on rows of memory. -/
namespace Go.Proofs.YtdfbfheceobboaaDoor
open Go.RowKit

abbrev Wd := BitVec 32
abbrev By := BitVec 8

def U (x : Wd) : Value := .int .u32 (x.toNat : Int)
def B8 (x : By) : Value := .int .u8 (x.toNat : Int)

/-- Four bytes, the highest first. -/
def word4 (a b c d : By) : Wd := (a.setWidth 32 <<< 24) ||| (b.setWidth 32 <<< 16) ||| (c.setWidth 32 <<< 8) ||| d.setWidth 32
def wordOf (bs : List By) (t : Nat) : Wd := word4 (bs.getD (4 * t) 0) (bs.getD (4 * t + 1) 0) (bs.getD (4 * t + 2) 0) (bs.getD (4 * t + 3) 0)

def fill (bs : List By) : Nat → List Wd
  | 0 => List.replicate 64 0
  | k + 1 => (fill bs k).set k (wordOf bs k)
def wnext (l : List Wd) (t : Nat) : Wd :=
  l.getD (t - 16) 0 + (rr (l.getD (t - 15) 0) 7 ^^^ rr (l.getD (t - 15) 0) 18 ^^^ (l.getD (t - 15) 0) >>> 3) + l.getD (t - 7) 0
    + (rr (l.getD (t - 2) 0) 17 ^^^ rr (l.getD (t - 2) 0) 19 ^^^ (l.getD (t - 2) 0) >>> 10)
def ext (bs : List By) : Nat → List Wd
  | 0 => fill bs 16
  | k + 1 => (ext bs k).set (16 + k) (wnext (ext bs k) (16 + k))
def sched (bs : List By) : List Wd := ext bs 48

theorem fill_len (bs : List By) (k : Nat) : (fill bs k).length = 64 := by
  induction k with
  | zero => simp [fill]
  | succ k ih => simp [fill, ih]
theorem ext_len (bs : List By) (k : Nat) : (ext bs k).length = 64 := by
  induction k with
  | zero => simp [ext, fill_len]
  | succ k ih => simp [ext, ih]
theorem sched_len (bs : List By) : (sched bs).length = 64 := ext_len bs 48

structure S8 where
  a : Wd
  b : Wd
  c : Wd
  d : Wd
  e : Wd
  f : Wd
  g : Wd
  h : Wd

def S8.list (s : S8) : List Wd := [s.a, s.b, s.c, s.d, s.e, s.f, s.g, s.h]
theorem S8.list_len (s : S8) : s.list.length = 8 := rfl

def rndU (v : S8) (k w : Wd) : Wd := v.h + (rr v.e 6 ^^^ rr v.e 11 ^^^ rr v.e 25) + ((v.e &&& v.f) ^^^ (~~~v.e &&& v.g)) + k + w
def rndV (v : S8) : Wd := (rr v.a 2 ^^^ rr v.a 13 ^^^ rr v.a 22) + ((v.a &&& v.b) ^^^ (v.a &&& v.c) ^^^ (v.b &&& v.c))
def rnd (v : S8) (k w : Wd) : S8 := ⟨rndU v k w + rndV v, v.a, v.b, v.c, v.d + rndU v k w, v.e, v.f, v.g⟩
def rnds (v : S8) (ks ws : List Wd) : Nat → S8
  | 0 => v
  | t + 1 => rnd (rnds v ks ws t) (ks.getD t 0) (ws.getD t 0)

def addSet (s v : S8) : Nat → List Wd
  | 0 => s.list
  | k + 1 => (addSet s v k).set k ((addSet s v k).getD k 0 + v.list.getD k 0)
def S8.add (s v : S8) : S8 := ⟨s.a + v.a, s.b + v.b, s.c + v.c, s.d + v.d, s.e + v.e, s.f + v.f, s.g + v.g, s.h + v.h⟩
theorem addSet_len (s v : S8) (k : Nat) : (addSet s v k).length = 8 := by
  induction k with
  | zero => rfl
  | succ k ih => simp [addSet, ih]
theorem addSet_all (s v : S8) : addSet s v 8 = (s.add v).list := by
  simp [addSet, S8.list, S8.add]

def Kt : List Wd := [
  0x428a2f98#32, 0x71374491#32, 0xb5c0fbcf#32, 0xe9b5dba5#32, 0x3956c25b#32, 0x59f111f1#32, 0x923f82a4#32, 0xab1c5ed5#32,
  0xd807aa98#32, 0x12835b01#32, 0x243185be#32, 0x550c7dc3#32, 0x72be5d74#32, 0x80deb1fe#32, 0x9bdc06a7#32, 0xc19bf174#32,
  0xe49b69c1#32, 0xefbe4786#32, 0x0fc19dc6#32, 0x240ca1cc#32, 0x2de92c6f#32, 0x4a7484aa#32, 0x5cb0a9dc#32, 0x76f988da#32,
  0x983e5152#32, 0xa831c66d#32, 0xb00327c8#32, 0xbf597fc7#32, 0xc6e00bf3#32, 0xd5a79147#32, 0x06ca6351#32, 0x14292967#32,
  0x27b70a85#32, 0x2e1b2138#32, 0x4d2c6dfc#32, 0x53380d13#32, 0x650a7354#32, 0x766a0abb#32, 0x81c2c92e#32, 0x92722c85#32,
  0xa2bfe8a1#32, 0xa81a664b#32, 0xc24b8b70#32, 0xc76c51a3#32, 0xd192e819#32, 0xd6990624#32, 0xf40e3585#32, 0x106aa070#32,
  0x19a4c116#32, 0x1e376c08#32, 0x2748774c#32, 0x34b0bcb5#32, 0x391c0cb3#32, 0x4ed8aa4a#32, 0x5b9cca4f#32, 0x682e6ff3#32,
  0x748f82ee#32, 0x78a5636f#32, 0x84c87814#32, 0x8cc70208#32, 0x90befffa#32, 0xa4506ceb#32, 0xbef9a3f7#32, 0xc67178f2#32]
def init8 : S8 := ⟨0x6a09e667#32, 0xbb67ae85#32, 0x3c6ef372#32, 0xa54ff53a#32, 0x510e527f#32, 0x9b05688c#32, 0x1f83d9ab#32, 0x5be0cd19#32⟩
theorem Kt_len : Kt.length = 64 := rfl

/-- The state behind one piece more. -/
def comp (s : S8) (bs : List By) : S8 := s.add (rnds s Kt (sched bs) 64)

/-- Piece n of a row of bytes; the state behind the first n pieces. -/
def pc (m : List By) (n : Nat) : List By := (m.drop (64 * n)).take 64
def hs (m : List By) : Nat → S8
  | 0 => init8
  | n + 1 => comp (hs m n) (pc m n)

/-- A word's bytes, the highest first. -/
def wbytes (x : Wd) : List By := [(x >>> 24).setWidth 8, (x >>> 16).setWidth 8, (x >>> 8).setWidth 8, x.setWidth 8]
def out (s : S8) : List By := s.list.flatMap wbytes

/-- What comes behind a row of n bytes. -/
def zerosOf (n : Nat) : Nat := (119 - n % 64) % 64
def lenBytes (n : Nat) : List By := [BitVec.ofNat 8 (8 * n / 72057594037927936), BitVec.ofNat 8 (8 * n / 281474976710656), BitVec.ofNat 8 (8 * n / 1099511627776), BitVec.ofNat 8 (8 * n / 4294967296),
  BitVec.ofNat 8 (8 * n / 16777216), BitVec.ofNat 8 (8 * n / 65536), BitVec.ofNat 8 (8 * n / 256), BitVec.ofNat 8 (8 * n)]
def ending (n : Nat) : List By := 128#8 :: (List.replicate (zerosOf n) 0 ++ lenBytes n)
def pad (m : List By) : List By := m ++ ending m.length
def sha (m : List By) : List By := out (hs (pad m) ((pad m).length / 64))

theorem ending_len (n : Nat) : (ending n).length = 9 + zerosOf n := by simp [ending, lenBytes]; omega
/-! ### The walk's forms of a round. -/
theorem not_bv (e : Wd) : bits .xor .u32 (if IntKind.u32.signed = true then -1 else IntKind.u32.max) (e.toNat : Int) = ((~~~e).toNat : Int) := by
  have h1 : (if IntKind.u32.signed = true then (-1 : Int) else IntKind.u32.max) = ((4294967295#32).toNat : Int) := by decide
  rw [h1, bits_xor_bv]
  rw [show (4294967295#32 : BitVec 32) = BitVec.allOnes 32 by decide, BitVec.allOnes_xor]
theorem add5_bv (a b c d e : Wd) : ((a.toNat : Int) + (b.toNat : Int) + (c.toNat : Int) + (d.toNat : Int) + (e.toNat : Int)) % 4294967296 = ((a + b + c + d + e).toNat : Int) := by
  simp only [BitVec.toNat_add]; omega
theorem rndU_form (v : S8) (kt y : Wd) : ((v.h.toNat : Int) + bits .xor .u32 (bits .xor .u32 ((rr v.e 6).toNat : Int) ((rr v.e 11).toNat : Int)) ((rr v.e 25).toNat : Int)
      + bits .xor .u32 (bits .and .u32 (v.e.toNat : Int) (v.f.toNat : Int)) (bits .and .u32 (bits .xor .u32 (if IntKind.u32.signed = true then -1 else IntKind.u32.max) (v.e.toNat : Int)) (v.g.toNat : Int))
      + (kt.toNat : Int) + (y.toNat : Int)) % 4294967296 = ((rndU v kt y).toNat : Int) := by
  rw [not_bv, bits_xor_bv, bits_xor_bv, bits_and_bv, bits_and_bv, bits_xor_bv, add5_bv]; rfl
theorem rndV_form (v : S8) : (bits .xor .u32 (bits .xor .u32 ((rr v.a 2).toNat : Int) ((rr v.a 13).toNat : Int)) ((rr v.a 22).toNat : Int)
      + bits .xor .u32 (bits .xor .u32 (bits .and .u32 (v.a.toNat : Int) (v.b.toNat : Int)) (bits .and .u32 (v.a.toNat : Int) (v.c.toNat : Int))) (bits .and .u32 (v.b.toNat : Int) (v.c.toNat : Int))) % 4294967296 = ((rndV v).toNat : Int) := by
  rw [bits_xor_bv, bits_xor_bv, bits_and_bv, bits_and_bv, bits_and_bv, bits_xor_bv, bits_xor_bv, add_bv]; rfl
theorem val_int {k : IntKind} {a b : Int} (h : a = b) : Value.int k a = .int k b := by rw [h]

/-! ### Rows: a block that is known whole. -/
def Row (w : World) (g t : Nat) (cs : List Value) : Prop := w.heap[g]? = some (.cells cs.toArray t (0, 0))

theorem Row.lt {w : World} {g t : Nat} {cs : List Value} (h : Row w g t cs) : g < w.heap.size := by
  unfold Row at h
  by_cases hlt : g < w.heap.size
  · exact hlt
  · rw [Array.getElem?_eq_none (by omega)] at h; cases h
theorem Row.cell {w : World} {g t : Nat} {cs : List Value} (h : Row w g t cs) (j : Nat) (v : Value) (hv : cs[j]? = some v) : w.cell? ⟨g, j, none⟩ = some v := by
  rw [cell_of_row w g j cs.toArray t (0, 0) h]; simpa using hv
theorem Row.frozen {w : World} {g t : Nat} {cs : List Value} (h : Row w g t cs) (j : Nat) : w.frozen? ⟨g, j, none⟩ = false := frozen_of_row w g j cs.toArray t h
theorem Row.new (w : World) (t : Nat) (cs : List Value) : Row (w.alloc (.cells cs.toArray t)) w.heap.size t cs := heap_alloc_new w _
theorem Row.at (w : World) (t : Nat) (cs : List Value) (C : Array Value) (g : Nat) (hg : g = w.heap.size) (hC : C = cs.toArray) : Row (w.alloc (.cells C t)) g t cs := by
  subst hg; subst hC; exact Row.new w t cs
theorem Row.alloc {w : World} {g t : Nat} {cs : List Value} (h : Row w g t cs) (o : Obj) : Row (w.alloc o) g t cs := (Below.heap_alloc w o g h.lt).trans h
theorem Row.set {w : World} {g t : Nat} {cs : List Value} (h : Row w g t cs) (i : Nat) (v : Value) : Row (w.setCell ⟨g, i, none⟩ v) g t (cs.set i v) := by
  have := heap_setCell_same w g i cs.toArray t v h
  unfold Row; rw [this]; simp
theorem Row.setOther {w : World} {g t : Nat} {cs : List Value} (h : Row w g t cs) (a : Addr) (v : Value) (hne : g ≠ a.block) : Row (w.setCell a v) g t cs :=
  (heap_setCell_other w a g v hne).trans h
theorem Row.below {w w' : World} {g t B : Nat} {cs : List Value} (h : Row w g t cs) (hb : Below B w w') (hg : g < B) : Row w' g t cs := (hb.block g hg).trans h
theorem Row.drewN {w : World} {g t : Nat} {cs : List Value} (h : Row w g t cs) (n : Nat) : Row (w.drewN n) g t cs := h
theorem Row.drew {w : World} {g t : Nat} {cs : List Value} (h : Row w g t cs) : Row w.drew g t cs := h

theorem Below_drewN {B : Nat} {a w : World} (h : Below B a w) (n : Nat) : Below B a (w.drewN n) := ⟨h.os, h.tape, h.output, h.size, h.block⟩

/-- A word out of a row of words. -/
theorem Row.word {w : World} {g t : Nat} {l : List Wd} (h : Row w g t (l.map U)) (j : Nat) (hj : j < l.length) : w.cell? ⟨g, j, none⟩ = some (.int .u32 ((l.getD j 0).toNat : Int)) := by
  refine h.cell j _ ?_
  simp [U, hj, List.getD_eq_getElem?_getD]
theorem map_set_U (l : List Wd) (i : Nat) (x : Wd) : (l.map U).set i (.int .u32 (x.toNat : Int)) = (l.set i x).map U := by
  rw [List.map_set]; rfl

end Go.Proofs.YtdfbfheceobboaaDoor
