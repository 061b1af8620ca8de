import Derived.Test.YtjooabgjkjnhhaaGreatDoorT24B
import Derived.Lib.AppendStr

/-! The reference's token: head, May of a token. -/
namespace Go.Proofs.YtjooabgjkjnhhaaGreatDoor
open Go.RowKit
set_option linter.unusedVariables false
set_option linter.unusedSimpArgs false

theorem natbeq (n m : Nat) : ((n : Int) == (m : Int)) = (n == m) := by rw [Bool.eq_iff_iff]; simp; omega
set_option maxHeartbeats 1000000 in
set_option maxRecDepth 100000 in
theorem r24head_any (i : Nat) (hi : i < 8) (c : By) (w : World) : Calls Tryz.prog 45 #[.int .i64 (i : Int), .int .u8 (c.toNat : Int)] w fun e w' => e = .returned (.bool (hd24 i c.toNat)) ∧ Below w.heap.size w w' := by
  have hb : Hid (Below w.heap.size w w) := Below.refl _ _
  generalize c.toNat = n at *
  match i, hi with
  | 0, _ => go_enter Tryz.func45, Tryz.ntmps45; go_wp2; go_ret; exact ⟨congrArg (fun b => Ending.returned (Value.bool b)) (natbeq n 80), hb.out⟩
  | 1, _ => go_enter Tryz.func45, Tryz.ntmps45; go_wp2; go_ret; exact ⟨congrArg (fun b => Ending.returned (Value.bool b)) (natbeq n 67), hb.out⟩
  | 2, _ => go_enter Tryz.func45, Tryz.ntmps45; go_wp2; go_ret; exact ⟨congrArg (fun b => Ending.returned (Value.bool b)) (natbeq n 84), hb.out⟩
  | 3, _ => go_enter Tryz.func45, Tryz.ntmps45; go_wp2; go_ret; exact ⟨congrArg (fun b => Ending.returned (Value.bool b)) (natbeq n 75), hb.out⟩
  | 4, _ => go_enter Tryz.func45, Tryz.ntmps45; go_wp2; go_ret; exact ⟨congrArg (fun b => Ending.returned (Value.bool b)) (natbeq n 1), hb.out⟩
  | 5, _ => go_enter Tryz.func45, Tryz.ntmps45; go_wp2; go_ret; exact ⟨by simp [hd24]; omega, hb.out⟩
  | 6, _ =>
    by_cases h : 1 ≤ n
    · have h' : (1 : Int) ≤ (n : Int) := by omega
      have hd : decide (1 ≤ n) = true := decide_eq_true h
      go_enter Tryz.func45, Tryz.ntmps45
      go_wp2
      go_ret
      exact ⟨by simp [hd24]; rw [Bool.eq_iff_iff]; simp; omega, hb.out⟩
    · obtain rfl : n = 0 := by omega
      go_enter Tryz.func45, Tryz.ntmps45
      go_wp2
      go_ret
      exact ⟨by simp [hd24], hb.out⟩
  | 7, _ => go_enter Tryz.func45, Tryz.ntmps45; go_wp2; go_ret; exact ⟨by simp [hd24]; omega, hb.out⟩

/-- Caveats in memory. -/
def CvsIn (W : World) (lo : Option Addr) (l : List Cv) : Prop := ∀ (i : Nat) (c : Cv), l[i]? = some c → ∃ B off, lo = some ⟨B, off, none⟩ ∧ B < W.heap.size ∧ W.rangeAt B (off + i * 5) (cvC c)
theorem CvsIn.keep {W W2 : World} {lo : Option Addr} {l : List Cv} (h : CvsIn W lo l) (hb : Below W.heap.size W W2) : CvsIn W2 lo l := fun i c hi => by
  obtain ⟨B, off, e, hlt, hr⟩ := h i c hi
  exact ⟨B, off, e, Nat.lt_of_lt_of_le hlt hb.size, fun j v hv => (hb.cell (p := ⟨B, off + i * 5 + j, none⟩) hlt).trans (hr j v hv)⟩
/-- A token's cells. -/
def tkC (key : Int) (io : Option Addr) (n ic : Nat) (lo : Option Addr) (m lc : Nat) (tag : List By) : List Value := [.int .i64 key, .slice io n ic, .slice lo m lc] ++ tag.map B8
theorem tkC_len {key : Int} {io : Option Addr} {n ic : Nat} {lo : Option Addr} {m lc : Nat} {tag : List By} (h : tag.length = 32) : (tkC key io n ic lo m lc tag).length = 35 := by simp [tkC, h]

end Go.Proofs.YtjooabgjkjnhhaaGreatDoor


/-! The reference's token: number. -/
namespace Go.Proofs.YtjooabgjkjnhhaaGreatDoor
open Go.RowKit
set_option linter.unusedVariables false

def numTo (p : List By) : Nat → Nat
  | 0 => 0
  | k + 1 => numTo p k + (p.getD k 0).toNat * 2 ^ (8 * k)
theorem numTo_8 (p : List By) : numTo p 8 = num8 p := by simp [numTo, num8]
theorem numTo_lt (p : List By) : ∀ k, numTo p k < 2 ^ (8 * k)
  | 0 => by simp [numTo]
  | k + 1 => by
    have h := numTo_lt p k
    have hb := (p.getD k 0).isLt
    rw [numTo, show 8 * (k + 1) = 8 * k + 8 by omega, Nat.pow_add]
    have h2 : (p.getD k 0).toNat * 2 ^ (8 * k) ≤ 255 * 2 ^ (8 * k) := Nat.mul_le_mul_right _ (by omega)
    omega
theorem or_num (p : List By) (k : Nat) (hk : k < 8) : bits .or .u64 (numTo p k : Int) ((((p.getD k 0).toNat : Nat) : Int) * 2 ^ (8 * k) % 18446744073709551616) = (numTo p (k + 1) : Int) := by
  have h0 := numTo_lt p k
  have h1 := numTo_lt p (k + 1)
  have hb := (p.getD k 0).isLt
  have hx : (p.getD k 0).toNat * 2 ^ (8 * k) < 18446744073709551616 := by
    have h2 : (p.getD k 0).toNat * 2 ^ (8 * k) ≤ numTo p (k + 1) := by rw [numTo]; omega
    have h3 : 2 ^ (8 * (k + 1)) ≤ 2 ^ 64 := Nat.pow_le_pow_right (by omega) (by omega)
    have h4 : (2 : Nat) ^ 64 = 18446744073709551616 := rfl
    omega
  have ha : numTo p k < 18446744073709551616 := by
    have h3 : 2 ^ (8 * k) ≤ 2 ^ 64 := Nat.pow_le_pow_right (by omega) (by omega)
    have h4 : (2 : Nat) ^ 64 = 18446744073709551616 := rfl
    omega
  have e1 : ((((p.getD k 0).toNat : Nat) : Int) * 2 ^ (8 * k) % 18446744073709551616) = (((p.getD k 0).toNat * 2 ^ (8 * k) : Nat) : Int) := by
    rw [show ((((p.getD k 0).toNat : Nat) : Int) * 2 ^ (8 * k)) = (((p.getD k 0).toNat * 2 ^ (8 * k) : Nat) : Int) by simp [Int.natCast_mul, Int.natCast_pow]]
    omega
  rw [e1]
  have e2 : numTo p k ||| (p.getD k 0).toNat * 2 ^ (8 * k) = numTo p (k + 1) := by
    rw [numTo, Nat.or_comm, ← Nat.shiftLeft_eq, ← Nat.shiftLeft_add_eq_or_of_lt h0, Nat.add_comm]
  generalize (p.getD k 0).toNat * 2 ^ (8 * k) = y at *
  show IntKind.u64.wrap ((BitVec.ofInt 64 (numTo p k : Int) ||| BitVec.ofInt 64 (y : Int)).toNat : Int) = _
  have e3 : (BitVec.ofInt 64 (numTo p k : Int) ||| BitVec.ofInt 64 (y : Int)).toNat = numTo p (k + 1) := by
    rw [BitVec.toNat_or]
    have q1 : (BitVec.ofInt 64 (numTo p k : Int)).toNat = numTo p k := by rw [BitVec.toNat_ofInt]; omega
    have q2 : (BitVec.ofInt 64 (y : Int)).toNat = y := by rw [BitVec.toNat_ofInt]; omega
    rw [q1, q2, e2]
  rw [e3]
  have : numTo p (k + 1) < 18446744073709551616 := by
    rw [← e3]; exact (BitVec.isLt _)
  simp [IntKind.wrap, IntKind.bits, IntKind.signed]
  omega

theorem wrapU64 (z : Int) : IntKind.u64.wrap z = z % 18446744073709551616 := by simp [IntKind.wrap, IntKind.bits, IntKind.signed]
set_option maxHeartbeats 1000000 in
set_option maxRecDepth 100000 in
theorem r24number_any (B off n cap : Nat) (p : List By) (h8 : 8 ≤ n) (w : World) (hb : ∀ j, j < 8 → w.cell? ⟨B, off + j, none⟩ = some (.int .u8 ((p.getD j 0).toNat : Int))) :
    Calls Tryz.prog 46 #[.slice (some ⟨B, off, none⟩) n cap] w fun e w' => e = .returned (.int .u64 (num8 p)) ∧ w' = w := by
  have HB : Hid (∀ j, j < 8 → w.cell? ⟨B, off + j, none⟩ = some (.int .u8 ((p.getD j 0).toNat : Int))) := hb
  have H0 : Hid (numTo p 0 = 0) := rfl
  clear hb
  go_enter Tryz.func46, Tryz.ntmps46
  go_wp2
  go_loopw [3, 4] (fun nv iv wr => ∃ i : Nat, i ≤ 8 ∧ nv = .int .u64 (numTo p i) ∧ iv = .int .i64 i ∧ wr = w) (fun _ iv _ => 8 - (intOf iv).toNat)
  case atStart => exact ⟨0, by omega, rfl, rfl, rfl⟩
  case round =>
    obtain ⟨i, hi, rfl, rfl, rfl⟩ := hrel
    by_cases hlt : i < 8
    · have y0 : (0 : Int) ≤ (i : Int) := by omega
      have y1 : (i : Int) < 8 := by omega
      have y2 : (i : Int) < (n : Int) := by omega
      have z1 : IntKind.i64.wrap (8 * (i : Int)) = 8 * (i : Int) := i64_in _ (by omega) (by omega)
      have c := HB.out i hlt
      have HO : Hid (bits .or .u64 (numTo p i : Int) ((((p.getD i 0).toNat : Nat) : Int) * 2 ^ (8 * i) % 18446744073709551616) = (numTo p (i + 1) : Int)) := or_num p i hlt
      have ho := HO.out
      go_wp2
      exact ⟨⟨i + 1, by omega, by rw [wrapU64]; exact congrArg _ ho, by go_num, by first | rfl | trivial⟩, by simp [intOf]; omega⟩
    · obtain rfl : i = 8 := by omega
      have y1 : ¬ ((8 : Nat) : Int) < 8 := by omega
      have HF : Hid (numTo p 8 = num8 p) := numTo_8 p
      go_wp2
      go_ret
      exact ⟨by rw [← HF.out]; rfl, rfl⟩
end Go.Proofs.YtjooabgjkjnhhaaGreatDoor


/-! The reference's token: first, Put. -/
namespace Go.Proofs.YtjooabgjkjnhhaaGreatDoor
open Go.RowKit
set_option linter.unusedVariables false
set_option linter.unusedSimpArgs false

theorem run_append_str (N : Nat) (a0 w : World) (ty : TypeId) (aoD : Option Addr) (nD capD : Nat) (m : List By) (hD : m.length = nD) (hown : Own N w (.slice aoD nD capD) m) (hbel : Below N a0 w)
    (s : ByteArray) (bs : List By) (hs : Lib.strCells s = bs.map B8) (n : Nat) (hn : bs.length = n) (hl : nD + n ≤ 140737488353280) :
    ∃ ao' cap' w', (Builtin.append_ #[23, 9] ty #[.slice aoD nD capD, .string s]).run Tryz.prog w = .ok (.slice ao' (nD + n) cap') w' ∧ Own N w' (.slice ao' (nD + n) cap') (m ++ bs) ∧ Below N a0 w' := by
  obtain ⟨i0, hi, hz0, hz1, hz2⟩ := info_parts Tryz.info5
  have hz : s.size = n := by have := congrArg List.length hs; rw [Lib.strCells_length, List.length_map, hn] at this; exact this
  subst hD
  obtain ⟨v', w', h1, h2, h3, _⟩ := Lib.run_append_own_string (P := Tryz.prog) w N 23 9 ty 5 i0 Tryz.underlying23 Tryz.underlying9 hi hz0 hz1 hz2 _ m.length (m.map B8) hown.1 s (by unfold maxLen; omega) (by omega) hown.2
  have hform : ∃ ao' cap', v' = .slice ao' (m.length + n) cap' := by
    rcases h2.2 with ⟨e, e0⟩ | ⟨g, c, cur, e, _⟩
    · exact ⟨none, 0, by rw [e, ← hz, e0]⟩
    · exact ⟨_, _, by rw [← hz]; exact e⟩
  obtain ⟨ao', cap', rfl⟩ := hform
  refine ⟨ao', cap', w', h1, ⟨?_, Nat.le_trans hown.2 h3.size⟩, hbel.grown h3 hown.2 (fun k hk => (hown.1.lt k hk).1)⟩
  rw [hz, hs] at h2
  rw [List.length_append, List.map_append, hn]; exact h2
/-- 'append(b, "..."...)' onto the call's own (or nil). -/
theorem wpList_append_str {ops : Array Oper} {rest : List Oper} {o : Oper} {a : Act} {w : World} {Q : Exit → Act → World → Prop} (hgd : o.guard = none) (x y : Operand)
    (ho : o.op = .call { callee := .builtin .append, args := #[x, y], argTypes := #[23, 9] })
    (N : Nat) (a0 : World) (aoD : Option Addr) (nD capD : Nat) (m : List By) (hx : a.eval x = .slice aoD nD capD) (hD : m.length = nD) (hown : Own N w (.slice aoD nD capD) m) (hbel : Below N a0 w)
    (s : ByteArray) (hy : a.eval y = .string s) (bs : List By) (hs : Lib.strCells s = bs.map B8) (n : Nat) (hn : bs.length = n) (hl : nD + n ≤ 140737488353280)
    (h : ∀ ao' cap' w', Own N w' (.slice ao' (nD + n) cap') (m ++ bs) → Below N a0 w' → wpList Tryz.prog ops Q rest (a.put o.dst (.slice ao' (nD + n) cap')) w') : wpList Tryz.prog ops Q (o :: rest) a w := by
  refine wpList_plain hgd fun K hK => ?_
  obtain ⟨ao', cap', w', hrun, h2, h3⟩ := run_append_str N a0 w o.type aoD nD capD m hD hown hbel s bs hs n hn hl
  unfold Oper.wp execOp
  simp only [ho, resolve, invoke, builtin, Sem.run_bind, Sem.run_pure, Result.andThen_ok, List.map_toArray, List.map_cons, List.map_nil, hx, hy, hrun]
  exact hK _ _ (h ao' cap' w' h2 h3)
def labelB : List By := [112#8, 111#8, 114#8, 116#8, 99#8, 117#8, 108#8, 108#8, 105#8, 115#8, 32#8, 116#8, 111#8, 107#8, 101#8, 110#8]
theorem ofNat_mod (n : Nat) : ((BitVec.ofNat 8 n).toNat : Int) = (n : Int) % 256 := by rw [BitVec.toNat_ofNat]; omega
theorem two_IsB (W : World) (n : Nat) : IsB (W.alloc (.cells #[.int .u8 0, .int .u8 ((n : Int) % 256)] 5)) (some ⟨W.heap.size, 0, none⟩) [0#8, BitVec.ofNat 8 n] := by
  have r := Row.at W 5 ([0#8, BitVec.ofNat 8 n].map B8) _ _ rfl rfl
  have e : ([0#8, BitVec.ofNat 8 n].map B8).toArray = #[.int .u8 0, .int .u8 ((n : Int) % 256)] := by
    simp only [List.map_cons, List.map_nil, B8, ofNat_mod]; rfl
  rw [e] at r
  exact row_isb r
set_option maxHeartbeats 1000000 in
set_option maxRecDepth 100000 in
theorem r24first_any (io : Option Addr) (ic : Nat) (id : List By) (w : World) (hb : IsB w io id) (hnil : io = none → ic = 0) (hm : id.length ≤ 140737488353000) :
    Calls Tryz.prog 34 #[.slice io id.length ic] w fun e w' => ∃ ao c', e = .returned (.slice ao (18 + id.length) c') ∧ Own w.heap.size w' (.slice ao (18 + id.length) c') (firstB id) ∧ Below w.heap.size w w' := by
  have HO : Hid (Own w.heap.size (w.alloc (.cells #[] 5)) (.slice (some ⟨w.heap.size, 0, none⟩) 0 0) []) := own_empty _ w (Nat.le_refl _) #[] rfl
  have HB : Hid (Below w.heap.size w (w.alloc (.cells #[] 5))) := (Below.refl _ _).alloc (Nat.le_refl _) _
  have HI : Hid (∀ W, Below w.heap.size w W → IsB W io id) := fun W h => hb.below h (Nat.le_refl _)
  have HNL : Hid (io = none → ic = 0) := hnil
  have HL : Hid (firstB id = ([] ++ labelB ++ [0#8, BitVec.ofNat 8 id.length]) ++ id) := rfl
  obtain ⟨n, hn⟩ : ∃ n, id.length = n := ⟨_, rfl⟩
  have HN : Hid (id.length = n) := hn
  rw [hn] at HL hm ⊢
  clear hb hnil hn
  go_enter Tryz.func34, Tryz.ntmps34
  go_wp2_with (at_builtin; first
    | (have hz := HO; clear hz; refine wpList_append_str rfl (.tmp 5) _ rfl w.heap.size w (some ⟨w.heap.size, 0, none⟩) 0 0 [] rfl rfl HO.out HB.out _ rfl labelB rfl 16 rfl (by omega) ?_; intro ao2 c2 w2 ho2 hb2; have HO2 : Hid (Own w.heap.size w2 (.slice ao2 16 c2) ([] ++ labelB)) := ho2; have HB2 : Hid (Below w.heap.size w w2) := hb2; clear HO HB ho2 hb2)
    | (have hz := HO2; clear hz; refine wpList_append_more rfl (.tmp 7) (.tmp 11) rfl w.heap.size w ao2 16 c2 ([] ++ labelB) rfl rfl (HO2.out.keep ((Below.refl _ _).alloc (Nat.le_refl _) _)) (HB2.out.alloc HB2.out.size _) _ 2 2 [0#8, BitVec.ofNat 8 n] rfl rfl (two_IsB w2 n) (by simp) (by omega) ?_; intro ao3 c3 w3 ho3 hb3; have HO3 : Hid (Own w.heap.size w3 (.slice ao3 18 c3) ([] ++ labelB ++ [0#8, BitVec.ofNat 8 n])) := ho3; have HB3 : Hid (Below w.heap.size w w3) := hb3; clear HO2 HB2 ho3 hb3)
    | (have hz := HO3; clear hz; refine wpList_append_more rfl (.tmp 13) (.tmp 14) rfl w.heap.size w ao3 18 c3 _ rfl rfl HO3.out HB3.out io n ic id rfl HN.out (HI.out _ HB3.out) HNL.out (by omega) ?_; intro ao4 c4 w4 ho4 hb4; have HF : Hid (Own w.heap.size w4 (.slice ao4 (18 + n) c4) (firstB id) ∧ Below w.heap.size w w4) := ⟨by rw [HL.out]; exact ho4, hb4⟩; clear HO3 HB3 ho4 hb4))
  go_ret
  exact ⟨ao4, c4, rfl, HF.out.1, HF.out.2⟩

theorem own_nilcap {N : Nat} {w : World} {ao : Option Addr} {n c : Nat} {m : List By} (h : Own N w (.slice ao n c) m) : ao = none → c = 0 := fun e => by
  rcases h.1.2 with ⟨e1, _⟩ | ⟨g, c', cur, e1, _⟩
  · injection e1
  · injection e1 with e2; rw [e2] at e; cases e

/-- A token in memory. -/
structure TkV (W : World) (t : Tk) (io : Option Addr) (ic : Nat) (lo : Option Addr) (lc : Nat) : Prop where
  id : IsB W io t.id
  inil : io = none → ic = 0
  ile : t.id.length ≤ ic
  cs : CvsIn W lo t.cs
  lnil : lo = none → lc = 0
  lle : t.cs.length ≤ lc
  tag : t.tag.length = 32
  ok : ∀ c ∈ t.cs, c.ok
  big : t.id.length ≤ 140737488351232
theorem TkV.keep {W W2 : World} {t : Tk} {io : Option Addr} {ic : Nat} {lo : Option Addr} {lc : Nat} (h : TkV W t io ic lo lc) (hb : Below W.heap.size W W2) : TkV W2 t io ic lo lc :=
  ⟨h.id.below hb (Nat.le_refl _), h.inil, h.ile, h.cs.keep hb, h.lnil, h.lle, h.tag, h.ok, h.big⟩
def tkCells (t : Tk) (io : Option Addr) (ic : Nat) (lo : Option Addr) (lc : Nat) : List Value := tkC t.key io t.id.length ic lo t.cs.length lc t.tag
theorem Cv.ok.z {c : Cv} (h : c.ok) : c.z < 18446744073709551616 := h.2.2.2.2
/-- What Put tells. -/
def PutP (t : Tk) (w : World) (e : Ending) (w' : World) : Prop :=
  Below w.heap.size w w' ∧ if tkMay t = true then ∃ ao c', e = .returned (.tuple #[.slice ao (tkB t).length c', .int .i64 0]) ∧ Own w.heap.size w' (.slice ao (tkB t).length c') (tkB t) else e = .returned (.tuple #[.slice none 0 0, .int .i64 5])
def headB (t : Tk) : List By := [80#8, 67#8, 84#8, 75#8, 1#8, BitVec.ofInt 8 t.key, BitVec.ofNat 8 t.id.length, BitVec.ofNat 8 t.cs.length]
theorem fl_len (l : List Cv) : (l.flatMap cvB).length = 26 * l.length := by
  induction l with
  | nil => rfl
  | cons c l ih => rw [List.flatMap_cons, List.length_append, cvB_len, ih, List.length_cons]; omega
theorem tkB_len {t : Tk} (h : t.tag.length = 32) : (tkB t).length = 8 + t.id.length + 26 * t.cs.length + 32 := by
  unfold tkB; simp only [List.length_append, fl_len, h, List.length_cons, List.length_nil]
theorem tkB_eq (t : Tk) : tkB t = headB t ++ t.id ++ t.cs.flatMap cvB ++ t.tag := rfl
theorem tkMay_parts {t : Tk} (h : tkMay t = true) : 0 ≤ t.key ∧ t.key ≤ 63 ∧ 1 ≤ t.id.length ∧ t.id.length ≤ 64 ∧ t.cs.length ≤ 32 := by
  unfold tkMay at h
  rw [Bool.and_eq_true, decide_eq_true_eq] at h
  exact h.1
end Go.Proofs.YtjooabgjkjnhhaaGreatDoor
