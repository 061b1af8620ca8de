import Derived.Test.YtgpnbiaghokjkaaDoorD21Num
import Derived.Test.YtgpnbiaghokjkaaDoorD21May
import Derived.Test.YtgpnbiaghokjkaaDoorD21Str
import Derived.BigQuiet
import Derived.Shelf.Strconv.AppendIntPublic10
import Derived.Lib.SmallJoins
import Derived.Lib.OwnKind

/-! Layer 21, the document's answer: bytes, first. (Printed by tools/gend21.py.) -/
namespace Go.Proofs.YtgpnbiaghokjkaaDoor
open Go.RowKit
set_option linter.unusedVariables false
set_option linter.unusedSimpArgs false
set_option maxRecDepth 100000

theorem tf {P : Prop} {b : Bool} (h : b = false) (e : b = true) : P := by rw [h] at e; cases e
section
variable {N : Nat} {w : World} {ao : Option Addr} {n c : Nat} {m bs : List By} {lb la lf : Bool} {xb xa x6 : Value} {W : World}
end

theorem ff {a b : Bool} (h : a = true → b = true) (hb : b = false) : a = false := by
  cases a with
  | false => rfl
  | true => have := h rfl; rw [hb] at this; cases this

theorem and15 (x : By) : bits .and .u8 (x.toNat : Int) 15 = ((x.toNat % 16 : Nat) : Int) := by revert x; decide +kernel
theorem hex_index (i : Nat) (hi : i < 16) (w : World) : (Instr.index 9 (.string { data := #[48, 49, 50, 51, 52, 53, 54, 55, 56, 57, 97, 98, 99, 100, 101, 102] }) (.int .u8 (i : Int))).run Tryd.prog w = .ok (.int .u8 ((hx i).toNat : Int)) w := by
  rw [k_digits, str_index hexD .u8 i hi w, hexD_get i hi]

section
variable {W1 : World} {N : Nat} {w0 : World} {ao : Option Addr} {n c : Nat} {m : List By} {G ci X XH XL : Nat} {d1 d2 : By} {L : Nat → Bool} {x10 x11 x12 x13 x14 x15 x16 x17 x18 x19 x20 x21 x22 x3 : Value} {W W2 : World}
end
/-- A number as a value. -/
def nI (n : Nat) : Value := .int .i64 (n : Int)
/-- The numbers of a config, as the walk has them. -/
theorem nums_take (l : List Nat) (i : Nat) (hi : i < l.length) : numsL (l.take (i + 1)) = numsL (l.take i) ++ (32#8 :: num (l.getD i 0)) := by
  unfold numsL
  rw [List.take_add_one, List.getElem?_eq_getElem hi, List.flatMap_append, List.getD_eq_getElem?_getD, List.getElem?_eq_getElem hi]
  simp
theorem numsL_len : ∀ (l : List Nat), (∀ n ∈ l, n < 9223372036854775808) → (numsL l).length ≤ 20 * l.length
  | [], _ => Nat.le_refl _
  | n :: l, h => by
    have := numsL_len l (fun m hm => h m (List.mem_cons_of_mem _ hm))
    have h2 := num_len (h n (List.mem_cons_self ..))
    have e : numsL (n :: l) = 32#8 :: (num n ++ numsL l) := by unfold numsL; rw [List.flatMap_cons]; rfl
    rw [e, List.length_cons, List.length_append, List.length_cons]; omega

end Go.Proofs.YtgpnbiaghokjkaaDoor


/-! Layer 21, the document's answer: Fits. (Printed by tools/gend21.py.) -/
namespace Go.Proofs.YtgpnbiaghokjkaaDoor
open Go.RowKit
set_option linter.unusedVariables false
set_option linter.unusedSimpArgs false
set_option maxRecDepth 100000

theorem step_load_rng' {ops : Array Oper} {o : Oper} {a : Act} {w : World} {K : Act → World → Prop} {Q : Exit → Act → World → Prop} {X : Prop} (hw : Region.wanted o (yielded ops a.tmps) = true) (ty : TypeId) (x : Operand) (ho : o.op = .load ty x)
    (g off : Nat) (cs : List Value) (hr : w.rangeAt g off cs) (hx : a.eval x = .pointer (some ⟨g, off, none⟩)) (d : TypeDesc) (hu : Tryd.prog.underlying ty = some d) (hd : d.isRow = true) (hi : (Tryd.prog.info? ty).map (·.size) = some cs.length)
    (h : K (a.put o.dst (.agg cs.toArray)) w) : if Region.wanted o (yielded ops a.tmps) = true then Oper.wp Tryd.prog o a w K Q else X := by
  rw [if_pos hw]
  exact wp_load_mid ty x ho g off hx _ d hr hu hd hi h
section
variable {W1 : World} {GS : Nat} {po eo bo : Option Addr} {pc ec bc PL EL BL : Nat} {NP NF : Int} {CV : List Value} {L : Nat → Bool} {x6 x7 x8 x9 x10 x11 x12 x13 x14 x15 x16 x17 x18 x19 x20 x21 x22 x23 x24 x25 x26 x27 : Value} {W W2 : World}
end
section
variable {W1 : World} {GS : Nat} {po eo bo : Option Addr} {pc ec bc PL EL BL : Nat} {NP NF : Int} {CV : List Value} {L : Nat → Bool} {x6 x7 x8 x9 x10 x11 x12 x13 x14 x15 x16 x17 x18 x19 x20 x21 x22 x23 x24 x25 x26 x27 : Value} {W W2 : World}
end
section
variable {W1 : World} {GS : Nat} {po eo bo : Option Addr} {pc ec bc PL EL BL : Nat} {NP NF : Int} {CV : List Value} {b3 : Bool} {L : Nat → Bool} {x6 x7 x8 x9 x10 x11 x12 x13 x14 x15 x16 x17 x18 x19 x20 x21 x22 x23 x24 x25 x26 x27 : Value} {W W2 : World}
end
end Go.Proofs.YtgpnbiaghokjkaaDoor


/-! Layer 21, the document's answer: Print. (Printed by tools/gend21.py.) -/
namespace Go.Proofs.YtgpnbiaghokjkaaDoor
open Go.RowKit
set_option linter.unusedVariables false
set_option linter.unusedSimpArgs false
set_option maxRecDepth 100000

theorem trues_app : ∀ (b : List Bool) (x : Bool) (i : Nat), trues (b ++ [x]) i = trues b i ++ (if x then [i + b.length] else [])
  | [], x, i => by
    rw [List.nil_append, trues, trues]
    cases x <;> rfl
  | y :: b, x, i => by
    have e : i + 1 + b.length = i + (b.length + 1) := by omega
    rw [List.cons_append, trues, trues, trues_app b x (i + 1), e, List.length_cons]
    cases y <;> rfl
theorem take_snoc {α : Type} (l : List α) (i : Nat) (d : α) (hi : i < l.length) : l.take (i + 1) = l.take i ++ [l.getD i d] := by
  rw [List.take_add_one, List.getElem?_eq_getElem hi, List.getD_eq_getElem?_getD, List.getElem?_eq_getElem hi]; rfl
theorem cellsL_app : ∀ (g : List (List By)) (x : List By) (k : Nat), cellsL (g ++ [x]) k = cellsL g k ++ (if x = List.replicate 32 255#8 then [] else cellL (k + g.length) x)
  | [], x, k => by
    rw [List.nil_append, cellsL, cellsL, cellsL]
    simp
  | y :: g, x, k => by
    have e : k + 1 + g.length = k + (g.length + 1) := by omega
    rw [List.cons_append, cellsL, cellsL, cellsL_app g x (k + 1), e, List.length_cons, List.append_assoc]
theorem cells_step (g : List (List By)) (i : Nat) (hi : i < g.length) : cellsL (g.take (i + 1)) 0 = cellsL (g.take i) 0 ++ (if g.getD i [] = List.replicate 32 255#8 then [] else cellL i (g.getD i [])) := by
  have hl : (g.take i).length = i := by rw [List.length_take]; omega
  rw [take_snoc g i [] hi, cellsL_app, hl, Nat.zero_add]
theorem pagesL_app : ∀ (gs : List (List (List By))) (g : List (List By)) (es : List Int) (k : Nat), pagesL (gs ++ [g]) es k = pagesL gs es k ++ (headL (k + gs.length) (es.getD gs.length 0) ++ cellsL g 0)
  | [], g, es, k => by
    rw [List.nil_append, pagesL, pagesL, pagesL]
    cases es <;> simp
  | y :: gs, g, es, k => by
    have e : k + 1 + gs.length = k + (gs.length + 1) := by omega
    have e2 : es.tail.getD gs.length 0 = es.getD (gs.length + 1) 0 := by cases es <;> simp
    rw [List.cons_append, pagesL, pagesL, pagesL_app gs g es.tail (k + 1), e, List.length_cons, e2]
    simp only [List.append_assoc]
theorem pages_step (gs : List (List (List By))) (es : List Int) (p : Nat) (hp : p < gs.length) : pagesL (gs.take (p + 1)) es 0 = pagesL (gs.take p) es 0 ++ (headL p (es.getD p 0) ++ cellsL (gs.getD p []) 0) := by
  have hl : (gs.take p).length = p := by rw [List.length_take]; omega
  rw [take_snoc gs p [] hp, pagesL_app, hl, Nat.zero_add]
theorem cellL_len (i : Nat) (x : List By) (hi : i < 9223372036854775808) (hx : x.length = 32) : (cellL i x).length ≤ 100 := by
  have := num_len hi
  unfold cellL
  simp only [List.length_append, List.length_cons, hexC_len, hx, wCell, List.length_nil]
  omega
theorem headL_len (p : Nat) (e : Int) (hp : p < 9223372036854775808) (he : e < 9223372036854775808) : (headL p e).length ≤ 50 := by
  have h1 := num_len hp
  have h2 := num_len (n := e.toNat) (by omega)
  unfold headL
  simp only [List.length_append, List.length_cons, wPage, List.length_nil]
  omega
theorem cellsL_len : ∀ (g : List (List By)) (k : Nat), k + g.length ≤ 1000000 → (∀ x ∈ g, x.length = 32) → (cellsL g k).length ≤ 100 * g.length
  | [], k, _, _ => Nat.le_refl _
  | x :: g, k, hk, h => by
    rw [List.length_cons] at hk
    have h1 := cellsL_len g (k + 1) (by omega) (fun y hy => h y (List.mem_cons_of_mem _ hy))
    have h2 := cellL_len k x (by omega) (h x (List.mem_cons_self ..))
    rw [cellsL, List.length_append, List.length_cons]
    split
    · show 0 + _ ≤ _; omega
    · omega

section
variable {N : Nat} {w : World} {ao : Option Addr} {n c : Nat} {m bs : List By} {la lf : Bool} {xa x6 : Value} {W : World}
end

section
variable {W1 : World} {N : Nat} {w0 : World} {ao : Option Addr} {n c : Nat} {m BS : List By} {GS EB eo EL ec p en : Nat} {S52 S53 S54 S60 S61 : ByteArray} {L : Nat → Bool} {x50 x51 x52 x53 x54 x55 x56 x57 x58 x59 x60 x61 x62 x63 x6 : Value} {W W2 : World}
end
section
variable {W1 : World} {N : Nat} {w0 : World} {ao : Option Addr} {n c : Nat} {m BS : List By} {GS PB po PL pc p ci QB qo QL qc : Nat} {X : List By} {S52 S53 S54 S60 S61 : ByteArray} {L : Nat → Bool} {x80 x81 x82 x83 x84 x85 x86 x87 x88 x89 x90 x91 x92 x93 x94 x95 x96 x6 : Value} {W W2 : World}
end
theorem getD_mem' {α : Type} (l : List α) (d : α) (i : Nat) (h : i < l.length) : l.getD i d ∈ l := by
  rw [List.getD_eq_getElem?_getD, List.getElem?_eq_getElem h]; exact List.getElem_mem h
theorem load_agg_at {w : World} {g : Nat} {ty : Nat} {cs : List Value} (h : Row w g ty cs) : w.rangeAt g 0 cs := fun j u hu => by
  have := h.cell j u hu
  simpa using this
/-- The bytes in front of the pages. -/
def preT (c : Cfg) (b : List Bool) (i : Nat) : List By := (wChip ++ numsL c.nums ++ [10#8] ++ wBlown) ++ numsL (trues (b.take i) 0)
theorem trues_len (b : List Bool) (i : Nat) : (trues b i).length ≤ b.length := by
  induction b generalizing i with
  | nil => exact Nat.le_refl _
  | cons x b ih =>
    have := ih (i + 1)
    rw [trues, List.length_cons]
    split
    · rw [List.length_cons]; omega
    · omega
theorem preT_len (c : Cfg) (hm : c.may = 0) (b : List Bool) (hb : b.length ≤ 1000000) (i : Nat) : (preT c b i).length ≤ 30000000 := by
  have h1 := numsL_len c.nums (fun n hn => by have := (cfg_of_nums hm).2 n hn; omega)
  have h2 := numsL_len (trues (b.take i) 0) (fun n hn => by
    have := mem_trues _ _ _ hn
    rw [List.length_take] at this
    omega)
  have h3 := trues_len (b.take i) 0
  rw [List.length_take] at h3
  have h4 : c.nums.length = 7 := rfl
  unfold preT
  simp only [List.length_append, List.length_cons, List.length_nil, wChip, wBlown]
  omega
/-- What is printed behind p pages. -/
def pagT (c : Cfg) (t : St) (p : Nat) : List By := preT c t.blown t.blown.length ++ [10#8] ++ pagesL (t.pages.take p) t.erases 0
theorem pagT_end (c : Cfg) (t : St) : pagT c t t.pages.length = printL c t := by
  unfold pagT preT printL
  rw [List.take_length, List.take_length]
  simp [List.append_assoc]
theorem pagesL_len (C : Nat) (hC : C ≤ 256) : ∀ (gs : List (List (List By))) (es : List Int) (k : Nat), k + gs.length ≤ 1000000 → (∀ e ∈ es, e < 9223372036854775808) → (∀ g ∈ gs, g.length = C ∧ ∀ x ∈ g, x.length = 32) → (pagesL gs es k).length ≤ 30000 * gs.length
  | [], _, _, _, _, _ => Nat.le_refl _
  | g :: gs, es, k, hk, he, hg => by
    rw [List.length_cons] at hk
    have h1 := pagesL_len C hC gs es.tail (k + 1) (by omega) (fun e hm => he e (List.mem_of_mem_tail hm)) (fun x hx => hg x (List.mem_cons_of_mem _ hx))
    obtain ⟨g1, g2⟩ := hg g (List.mem_cons_self ..)
    have h2 := cellsL_len g 0 (by omega) g2
    have h3 := headL_len k (es.headD 0) (by omega) (by
      cases es with
      | nil => show (0 : Int) < _; omega
      | cons e es => exact he e (List.mem_cons_self ..))
    rw [pagesL, List.length_append, List.length_append, List.length_cons]
    omega
end Go.Proofs.YtgpnbiaghokjkaaDoor

/-! Layer 21, the landed code: numbers in digits (strconv.AppendInt), laid at this program. (The table of numbers and its rows are printed by tools/laysai.py.) -/
namespace Go.Proofs.YtgpnbiaghokjkaaDoor
open Go.RowKit
set_option linter.unusedVariables false
set_option linter.unusedSimpArgs false
set_option maxRecDepth 100000

def Tryd.laysAI_ren : Go.Shelf.Ren := ⟨fun | 176 => 64 | 249 => 75 | 288 => 80 | 283 => 83 | 284 => 84 | 285 => 85 | 286 => 86 | 129 => 88 | 317 => 87 | 318 => 89 | 319 => 90 | 320 => 91 | 337 => 92 | 338 => 93 | n => n, fun | 37 => 49 | 2 => 2 | 3 => 3 | 53 => 114 | 4 => 4 | 9 => 9 | 171 => 116 | 0 => 0 | 173 => 119 | 212 => 123 | 51 => 124 | 5 => 5 | 20 => 20 | 213 => 125 | 46 => 87 | 232 => 55 | 233 => 129 | n => n, fun | 17 => 1 | 18 => 2 | 19 => 3 | n => n⟩
theorem Tryd.laysAI : Go.Proofs.LaysM.n176 Tryd.prog Tryd.laysAI_ren where
  mixed := by kernel_rfl
  f129 := Tryd.func88.trans (congrArg some (by kernel_rfl))
  f176 := Tryd.func64.trans (congrArg some (by kernel_rfl))
  f249 := Tryd.func75.trans (congrArg some (by kernel_rfl))
  f283 := Tryd.func83.trans (congrArg some (by kernel_rfl))
  f284 := Tryd.func84.trans (congrArg some (by kernel_rfl))
  f285 := Tryd.func85.trans (congrArg some (by kernel_rfl))
  f286 := Tryd.func86.trans (congrArg some (by kernel_rfl))
  f288 := Tryd.func80.trans (congrArg some (by kernel_rfl))
  f317 := Tryd.func87.trans (congrArg some (by kernel_rfl))
  f318 := Tryd.func89.trans (congrArg some (by kernel_rfl))
  f319 := Tryd.func90.trans (congrArg some (by kernel_rfl))
  f320 := Tryd.func91.trans (congrArg some (by kernel_rfl))
  f337 := Tryd.func92.trans (congrArg some (by kernel_rfl))
  f338 := Tryd.func93.trans (congrArg some (by kernel_rfl))
  t0 := Tryd.underlying0
  a0 := Tryd.isAgg0
  z0 := Tryd.sizeOf0
  v0 := Tryd.zeroValue0
  t2 := Tryd.underlying2
  a2 := Tryd.isAgg2
  z2 := Tryd.sizeOf2
  v2 := Tryd.zeroValue2
  t3 := Tryd.underlying3
  a3 := Tryd.isAgg3
  z3 := Tryd.sizeOf3
  v3 := Tryd.zeroValue3
  t4 := Tryd.underlying4
  a4 := Tryd.isAgg4
  z4 := Tryd.sizeOf4
  v4 := Tryd.zeroValue4
  t5 := Tryd.underlying5
  a5 := Tryd.isAgg5
  z5 := Tryd.sizeOf5
  v5 := Tryd.zeroValue5
  t9 := Tryd.underlying9
  a9 := Tryd.isAgg9
  z9 := Tryd.sizeOf9
  v9 := Tryd.zeroValue9
  t20 := Tryd.underlying20
  a20 := Tryd.isAgg20
  z20 := Tryd.sizeOf20
  v20 := Tryd.zeroValue20
  t37 := Tryd.underlying49
  a37 := Tryd.isAgg49
  z37 := Tryd.sizeOf49
  v37 := Tryd.zeroValue49
  t46 := Tryd.underlying87
  a46 := Tryd.isAgg87
  z46 := Tryd.sizeOf87
  v46 := Tryd.zeroValue87
  t51 := Tryd.underlying124
  a51 := Tryd.isAgg124
  z51 := Tryd.sizeOf124
  v51 := Tryd.zeroValue124
  t53 := Tryd.underlying114
  a53 := Tryd.isAgg114
  z53 := Tryd.sizeOf114
  v53 := Tryd.zeroValue114
  t171 := Tryd.underlying116
  a171 := Tryd.isAgg116
  z171 := Tryd.sizeOf116
  v171 := Tryd.zeroValue116
  t173 := Tryd.underlying119
  a173 := Tryd.isAgg119
  z173 := Tryd.sizeOf119
  v173 := Tryd.zeroValue119
  t212 := Tryd.underlying123
  a212 := Tryd.isAgg123
  z212 := Tryd.sizeOf123
  v212 := Tryd.zeroValue123
  t213 := Tryd.underlying125
  a213 := Tryd.isAgg125
  z213 := Tryd.sizeOf125
  t232 := Tryd.underlying55
  a232 := Tryd.isAgg55
  z232 := Tryd.sizeOf55
  v232 := Tryd.zeroValue55
  t233 := Tryd.underlying129
  a233 := Tryd.isAgg129
  z233 := Tryd.sizeOf129
  v233 := Tryd.zeroValue129
  g17 := by kernel_rfl
  g18 := by kernel_rfl
  g19 := by kernel_rfl
  i0 := by kernel_rfl
  i2 := by kernel_rfl
  i3 := by kernel_rfl
  i4 := by kernel_rfl
  i5 := by kernel_rfl
  i9 := by kernel_rfl
  i20 := by kernel_rfl
  i37 := by kernel_rfl
  i46 := by kernel_rfl
  i51 := by kernel_rfl
  i53 := by kernel_rfl
  i171 := by kernel_rfl
  i173 := by kernel_rfl
  i212 := by kernel_rfl
  i232 := by kernel_rfl
  i233 := by kernel_rfl
  m17 := by kernel_rfl
  m18 := by kernel_rfl
  m19 := by kernel_rfl

theorem dec_num : ∀ (k u : Nat), u < 10 ^ (k + 1) → Lib.byteCells (Lib.decDigits u) = (numF k u).map B8
  | 0, u, h => by
    have h' : u < 10 := by simpa using h
    rw [Lib.decDigits, dif_pos h', numF]
    unfold Lib.byteCells
    show [Value.int .u8 _] = [B8 (dg u)]
    unfold B8 dg
    rw [BitVec.toNat_ofNat, Nat.mod_eq_of_lt h', UInt8.toNat_ofNat']
  | k + 1, u, h => by
    by_cases h' : u < 10
    · rw [Lib.decDigits, dif_pos h', numF, if_pos h']
      unfold Lib.byteCells
      show [Value.int .u8 _] = [B8 (dg u)]
      unfold B8 dg
      rw [BitVec.toNat_ofNat, Nat.mod_eq_of_lt h', UInt8.toNat_ofNat']
    · rw [Lib.decDigits, dif_neg h', numF, if_neg h', Lib.byteCells_append, List.map_append, dec_num k (u / 10) (by rw [Nat.pow_succ] at h; omega)]
      congr 1
theorem itoa_num (n : Nat) (hn : n < 9223372036854775808) : Lib.byteCells (Lib.itoa (n : Int)) = (num n).map B8 := by
  rw [Lib.itoa_nonneg]
  exact dec_num 20 n (by omega)

/-- The table that AppendInt reads. -/
def Tab (w : World) : Prop := Lib.TabIs Tryd.prog w "internal/strconv.uint64pow10" .u64 Lib.pow10Tab
def TabB (N : Nat) (w : World) : Prop := Lib.TabBelow Tryd.prog N w "internal/strconv.uint64pow10" .u64 Lib.pow10Tab
theorem Tab.b {w : World} (h : Tab w) : TabB w.heap.size w := Lib.tabBelow_of_tabIs h
theorem Tab.on {w w' : World} {N : Nat} (h : Tab w) (hb : Below N w w') (hN : w.heap.size ≤ N) : Tab w' := h.b w' (hb.mono hN)
theorem TabB.on {N : Nat} {w w' : World} (h : TabB N w) (hb : Below N w w') : TabB N w' := Lib.TabBelow.on h hb

/-- What the writers leave as it was: all that is older, and all but bytes. -/
def Fr (N : Nat) (w w' : World) : Prop := Below N w w' ∧ Lib.OthersKept 5 none w w'
theorem Fr.refl (N : Nat) (w : World) : Fr N w w := ⟨Below.refl _ _, Lib.OthersKept.refl _ _ _⟩
theorem Fr.trans {N : Nat} {a b c : World} (h : Fr N a b) (k : Fr N b c) : Fr N a c := ⟨h.1.trans k.1, h.2.trans k.2⟩
theorem Fr.alloc {N : Nat} {a w : World} (h : Fr N a w) (hN : N ≤ w.heap.size) (o : Obj) : Fr N a (w.alloc o) := ⟨h.1.alloc hN o, h.2.alloc o⟩
theorem Fr.below {N : Nat} {a w w' : World} (h : Fr N a w) (hb : Below w.heap.size w w') (hN : N ≤ w.heap.size) : Fr N a w' := ⟨h.1.trans (hb.mono hN), h.2.below hb⟩
theorem Fr.row {N : Nat} {w w' : World} (h : Fr N w w') {g T : Nat} {cs : List Value} (hr : Row w g T cs) (hT : T ≠ 5) : Row w' g T cs :=
  h.2 g _ hr (by simp) fun c fz e => by injection e with e1 e2 e3; exact hT e2

set_option maxHeartbeats 1000000 in
theorem appendInt_any (N : Nat) (n : Nat) (hn : n < 9223372036854775808) (v : Value) (m : List By) (w : World) (ho : Own N w v m) (hl : m.length + 21 ≤ 140737488355328) (ht : TabB N w) :
    Calls Tryd.prog 64 #[v, .int .i64 (n : Int), .int .i64 10] w fun e w' => ∃ v', e = .returned v' ∧ Own N w' v' (m ++ num n) ∧ Fr N w w' := by
  have hL : (Lib.itoa (n : Int)).length = (num n).length := by
    have := congrArg List.length (itoa_num n hn)
    rwa [Lib.byteCells_length, List.length_map] at this
  refine (Any.strconv_AppendInt_10 Tryd.laysAI N m.length (n : Int) (by omega) (by omega) v (m.map B8) w ho.1 ho.2 hl ht).mono ?_
  rintro e w' ⟨v', rfl, h1, h2, h3⟩
  refine ⟨v', rfl, ⟨?_, Nat.le_trans ho.2 h2.size⟩, h2, h3⟩
  rw [itoa_num n hn, hL] at h1
  rw [List.length_append, List.map_append]
  exact h1
end Go.Proofs.YtgpnbiaghokjkaaDoor
