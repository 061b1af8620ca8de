import Derived.Test.YtgpnbiaghokjkaaDoorRows
import Derived.Test.YtgpnbiaghokjkaaDoorMem
import Derived.Deep.MidRow
import Derived.WalkKit
import Derived.WalkSpells
import Derived.WalkLawsBesides
import Derived.Deep.QuietTactic
import Derived.BigQuiet
import Derived.Deep.RegionHeld3
import Derived.Test.YtgpnbiaghokjkaaDoorR4App
import Derived.Deep.DeepCutAuto
import Derived.Deep.AppendLies
import Derived.Laws.AppendOwnNone
import Derived.StillTailTactics
import Derived.Test.YtgpnbiaghokjkaaDoorC4Make
import Derived.Deep.RegionLaw
import Derived.Laws.BytesString
import Derived.Test.YtgpnbiaghokjkaaDoorD21Math
import Derived.Test.YtgpnbiaghokjkaaDoorR4Fresh
import Derived.Test.YtgpnbiaghokjkaaDoorC4First
import Derived.Laws.OwnMore
import Derived.Laws.CopyOwn
import Derived.Laws.MakeOwn
import Derived.Lib.LazyBuf
import Derived.Test.YtgpnbiaghokjkaaDoorD21Inv
import Derived.Laws.Concat
import Derived.Laws.Strings2
import Derived.Lib.AppendStr

namespace Go.Proofs.YtgpnbiaghokjkaaDoor
open Go.RowKit

end Go.Proofs.YtgpnbiaghokjkaaDoor


namespace Go.Proofs.YtgpnbiaghokjkaaDoor
open Go.RowKit

end Go.Proofs.YtgpnbiaghokjkaaDoor


namespace Go.Proofs.YtgpnbiaghokjkaaDoor
open Go.RowKit

end Go.Proofs.YtgpnbiaghokjkaaDoor


namespace Go.Proofs.YtgpnbiaghokjkaaDoor
open Go.RowKit

end Go.Proofs.YtgpnbiaghokjkaaDoor


namespace Go.Proofs.YtgpnbiaghokjkaaDoor
open Go.RowKit

theorem Tryd.info5 : (Tryd.prog.info? 5).map (fun i => (i.zero, i.size, i.bytes)) = some (some (.int .u8 0), 1, 1) := by kernel_rfl

def slen : Value → Nat
  | .slice _ n _ => n
  | _ => 0

end Go.Proofs.YtgpnbiaghokjkaaDoor


namespace Go.Proofs.YtgpnbiaghokjkaaDoor
open Go.RowKit

/-- The first k bytes of a row, zeros behind them. -/
def part (l : List By) (n k : Nat) : List By := l.take k ++ List.replicate (n - k) 0
end Go.Proofs.YtgpnbiaghokjkaaDoor


namespace Go.Proofs.YtgpnbiaghokjkaaDoor
open Go.RowKit
set_option maxRecDepth 100000

theorem conv_bytes (w : World) (ao : Option Addr) (n cap : Nat) (bs : List By) (hn : bs.length = n) (hb : IsB w ao bs) :
    (convert 49 9 (.slice ao n cap)).run Tryd.prog w = .ok (.string (strOf bs)) w := by
  subst hn
  rw [run_convert_bytes_string w 49 9 5 ao bs.length cap Tryd.underlying49 Tryd.underlying5 Tryd.underlying9]
  have key : ∀ a : Addr, (∀ j v, (bs.map B8)[j]? = some v → w.cell? (a.add j) = some v) → (Conv.bytesToString (.slice (some a) bs.length cap)).run Tryd.prog w = .ok (.string (strOf bs)) w := by
    intro a h
    have hl := run_loadCells_list (P := Tryd.prog) w a (bs.map B8) h
    rw [List.length_map] at hl
    have e : bs.map B8 = (bs.map fun b => (b.toNat : Int)).map (Value.int .u8) := by
      rw [List.map_map]; rfl
    rw [e] at hl
    exact run_bytesToString w a bs.length cap _ hl
  rcases hb with rfl | ⟨B, off, rfl, hc⟩
  · cases ao with
    | none => rfl
    | some a => exact key a (by simp)
  · refine key _ ?_
    intro j u hu
    rw [Addr.add_mid]
    rw [List.getElem?_map] at hu
    cases hj : bs[j]? with
    | none => rw [hj] at hu; cases hu
    | some v => rw [hj] at hu; injection hu with hu; subst hu; exact hc j v hj

end Go.Proofs.YtgpnbiaghokjkaaDoor


/-! Own rows written into; append onto nil of any length; append onto an own slice, and where its answer lies; results of two. -/
namespace Go.Proofs.YtgpnbiaghokjkaaDoor
open Go.RowKit

theorem results_rowtmp {fn : Func} {p u : Tmp} {ty : TypeId} (h : fn.results = #[.cell p ty, .tmp u]) (tmps : Array Value) (w : World) (g t : Nat) (cs : List Value) (d : TypeDesc)
    (hp : tmps.getD p undef = .pointer (some ⟨g, 0, none⟩)) (hr : Row w g t cs) (hu : Tryd.prog.underlying ty = some d) (hd : d.isRow = true) (hi : (Tryd.prog.info? ty).map (·.size) = some cs.length) :
    (results fn tmps).run Tryd.prog w = .ok (.tuple #[.agg cs.toArray, tmps.getD u undef]) w := by
  rw [results_cell_tmp h]
  have hl := run_loadVar_mid (P := Tryd.prog) w g 0 ty cs d (by have := hr.range 0 cs.length; simpa using this) hu hd hi
  simp [hp, asAddr, hl]
set_option maxRecDepth 100000

end Go.Proofs.YtgpnbiaghokjkaaDoor


/-! Rows of bytes held against each other: the code's, and the document's. -/
namespace Go.Proofs.YtgpnbiaghokjkaaDoor
open Go.RowKit

end Go.Proofs.YtgpnbiaghokjkaaDoor


/-! The document's HMAC on lists of bytes. -/
namespace Go.Proofs.YtgpnbiaghokjkaaDoor
open Go.RowKit

end Go.Proofs.YtgpnbiaghokjkaaDoor


/-! The document's HMAC, as the reference computes it. -/
namespace Go.Proofs.YtgpnbiaghokjkaaDoor
open Go.RowKit

end Go.Proofs.YtgpnbiaghokjkaaDoor


namespace Go.Proofs.YtgpnbiaghokjkaaDoor
open Go.RowKit

end Go.Proofs.YtgpnbiaghokjkaaDoor


namespace Go.Proofs.YtgpnbiaghokjkaaDoor
open Go.RowKit

end Go.Proofs.YtgpnbiaghokjkaaDoor


namespace Go.Proofs.YtgpnbiaghokjkaaDoor
open Go.RowKit

end Go.Proofs.YtgpnbiaghokjkaaDoor


namespace Go.Proofs.YtgpnbiaghokjkaaDoor
open Go.RowKit

end Go.Proofs.YtgpnbiaghokjkaaDoor


namespace Go.Proofs.YtgpnbiaghokjkaaDoor
open Go.RowKit

end Go.Proofs.YtgpnbiaghokjkaaDoor


namespace Go.Proofs.YtgpnbiaghokjkaaDoor
open Go.RowKit

/-! ### The state behind some pieces, and more bytes behind them -/
end Go.Proofs.YtgpnbiaghokjkaaDoor


namespace Go.Proofs.YtgpnbiaghokjkaaDoor
open Go.RowKit

end Go.Proofs.YtgpnbiaghokjkaaDoor


namespace Go.Proofs.YtgpnbiaghokjkaaDoor
open Go.RowKit

end Go.Proofs.YtgpnbiaghokjkaaDoor


namespace Go.Proofs.YtgpnbiaghokjkaaDoor
open Go.RowKit

end Go.Proofs.YtgpnbiaghokjkaaDoor


/-! The code's HMAC. -/
namespace Go.Proofs.YtgpnbiaghokjkaaDoor
open Go.RowKit

end Go.Proofs.YtgpnbiaghokjkaaDoor


/-! A Mac made new. -/
namespace Go.Proofs.YtgpnbiaghokjkaaDoor
open Go.RowKit
set_option linter.unusedSimpArgs false

end Go.Proofs.YtgpnbiaghokjkaaDoor


/-! The code's tag: a Mac written to, its Sum, Of. -/
namespace Go.Proofs.YtgpnbiaghokjkaaDoor
open Go.RowKit

end Go.Proofs.YtgpnbiaghokjkaaDoor


/-! A row of bytes that is made and copied into. (The same as in I11Tool, without image.) -/
namespace Go.Proofs.YtgpnbiaghokjkaaDoor
open Go.RowKit
set_option linter.unusedVariables false

/-- A row of bytes that lies above N is the call's own. -/
theorem own_row {N : Nat} {w : World} {g : Nat} {m : List By} (h : Row w g 5 (m.map B8)) (hg : N ≤ g) (n : Nat) (hn : m.length = n) (hm : n ≤ 140737488355328) : Own N w (.slice (some ⟨g, 0, none⟩) n n) m := by
  have hl := h.lt
  subst hn
  refine ⟨⟨by simp, .inr ⟨g, m.length, (m.map B8).toArray, rfl, hg, h, Nat.le_refl _, by unfold maxLen; omega, by simp, ?_⟩⟩, by omega⟩
  simp
  exact List.take_of_length_le (by simp)

end Go.Proofs.YtgpnbiaghokjkaaDoor


/-! A drawn region by an invariant over what has come up: one step an operation, whatever the number of orders. -/
namespace Go.Proofs.YtgpnbiaghokjkaaDoor
open Go.RowKit

end Go.Proofs.YtgpnbiaghokjkaaDoor


/-! Strings as lists of bytes: put together, taken apart, held against each other. -/
namespace Go.Proofs.YtgpnbiaghokjkaaDoor
open Go.RowKit
set_option linter.unusedVariables false
set_option linter.unusedSimpArgs false

theorem strOf_size (bs : List By) : (strOf bs).size = bs.length := (strOf_is bs).1
theorem strOf_mk (bs : List By) : strOf bs = ⟨(bs.map fun b => UInt8.ofNat b.toNat).toArray⟩ := by
  apply ByteArray.ext
  exact strOf_data bs
theorem strOf_add (a b : List By) : strOf a ++ strOf b = strOf (a ++ b) := by
  rw [strOf_mk, strOf_mk, strOf_mk, Go.ByteArray.mk_append_mk, List.map_append]
theorem u8_by (b : By) : (UInt8.ofNat b.toNat).toNat = b.toNat := by
  have := b.isLt
  simp
theorem strOf_inj {a b : List By} (h : strOf a = strOf b) : a = b := by
  rw [strOf_mk, strOf_mk] at h
  have h1 : (a.map fun x => UInt8.ofNat x.toNat) = b.map fun x => UInt8.ofNat x.toNat := by
    have := congrArg ByteArray.data h
    simpa using this
  have key : ∀ (a b : List By), (a.map fun x => UInt8.ofNat x.toNat) = (b.map fun x => UInt8.ofNat x.toNat) → a = b := by
    intro a
    induction a with
    | nil => intro b h; cases b with | nil => rfl | cons y b => cases h
    | cons x a ih =>
      intro b h
      cases b with
      | nil => cases h
      | cons y b =>
        rw [List.map_cons, List.map_cons] at h
        injection h with h1 h2
        have h3 : x.toNat = y.toNat := by rw [← u8_by x, ← u8_by y, h1]
        rw [BitVec.eq_of_toNat_eq h3, ih b h2]
  exact key a b h1
theorem strOf_beq (a b : List By) : ((strOf a).toList == (strOf b).toList) = decide (a = b) := by
  by_cases h : a = b
  · subst h; simp
  · rw [decide_eq_false h, beq_eq_false_iff_ne]
    intro e
    rw [ByteArray.toList_eq, ByteArray.toList_eq] at e
    exact h (strOf_inj (ByteArray.ext (Array.toList_inj.1 e)))
/-- A string's bytes. -/
def toL (S : ByteArray) : List By := S.data.toList.map fun b => BitVec.ofNat 8 b.toNat
theorem strOf_toL (S : ByteArray) : strOf (toL S) = S := by
  rw [strOf_mk]
  apply ByteArray.ext
  unfold toL
  rw [List.map_map]
  have : ((fun b : By => UInt8.ofNat b.toNat) ∘ fun b : UInt8 => (BitVec.ofNat 8 b.toNat : By)) = id := by
    funext b
    show UInt8.ofNat (BitVec.ofNat 8 b.toNat).toNat = b
    rw [BitVec.toNat_ofNat, Nat.mod_eq_of_lt (by have := b.toNat_lt; omega)]
    simp
  rw [this, List.map_id]
theorem toL_len (S : ByteArray) : (toL S).length = S.size := by
  unfold toL
  rw [List.length_map, Array.length_toList]; rfl
theorem strCells_of (a : List By) : Lib.strCells (strOf a) = a.map B8 := by
  unfold Lib.strCells
  rw [strOf_mk]
  simp only [List.map_map]
  apply List.map_congr_left
  intro b _
  show Value.int .u8 ((UInt8.ofNat b.toNat).toNat : Int) = B8 b
  rw [u8_by]; rfl
/-- '+' of two strings. -/
theorem str_add (a b : List By) (h : a.length + b.length ≤ 9223372036854775807) (w : World) : (Op.stringOp .add (strOf a) (strOf b)).run Tryd.prog w = .ok (.string (strOf (a ++ b))) w := by
  rw [run_string_add_sum w _ _ (by rw [strOf_size, strOf_size]; exact h), strOf_add]
/-- 's[i]'. -/
theorem str_index (a : List By) (k : IntKind) (i : Nat) (hi : i < a.length) (w : World) : (Instr.index 9 (.string (strOf a)) (.int k (i : Int))).run Tryd.prog w = .ok (.int .u8 ((a.getD i 0).toNat : Int)) w := by
  have hs := strOf_size a
  rw [run_index_string w 9 _ k _ Tryd.underlying9, dif_pos ⟨by omega, by omega⟩]
  have := (strOf_is a).2 i (by omega)
  simp only [Int.toNat_natCast]
  rw [this]
/-- 's[i:j]'. -/
theorem str_slice (a : List By) (k k' : IntKind) (i j : Nat) (hij : i ≤ j) (hj : j ≤ a.length) (w : World) : (Instr.slice 9 (.string (strOf a)) (some (.int k (i : Int))) (some (.int k' (j : Int))) none).run Tryd.prog w = .ok (.string (strOf ((a.drop i).take (j - i)))) w := by
  have hs := strOf_size a
  rw [run_slice_string w 9 _ k k' _ _ Tryd.underlying9 (by omega) (by omega) (by omega)]
  rw [Int.toNat_natCast, Int.toNat_natCast, strOf_mk, Go.ByteArray.extract_mk, strOf_mk, ← List.map_drop, ← List.map_take]
theorem str_len (a : List By) (ty : TypeId) (w : World) : (Builtin.len_ #[9] ty #[.string (strOf a)]).run Tryd.prog w = .ok (goInt a.length) w := by
  rw [run_len_string w 9 ty _ Tryd.underlying9, strOf_size]
theorem k_blank : ({ data := #[32] } : ByteArray) = strOf [32#8] := rfl
theorem k_lf : ({ data := #[10] } : ByteArray) = strOf [10#8] := rfl
theorem k_chip : ({ data := #[99, 104, 105, 112] } : ByteArray) = strOf wChip := rfl
theorem k_blown : ({ data := #[98, 108, 111, 119, 110] } : ByteArray) = strOf wBlown := rfl
theorem k_page : ({ data := #[112, 97, 103, 101] } : ByteArray) = strOf wPage := rfl
theorem k_cell : ({ data := #[99, 101, 108, 108] } : ByteArray) = strOf wCell := rfl
/-- One byte in memory of its own. -/
theorem own_one (N : Nat) (w : World) (b : By) (hN : N ≤ w.heap.size) (v : Int) (hv : v = (b.toNat : Int)) : Own N (w.alloc (.cells #[.int .u8 v] 5)) (.slice (some ⟨w.heap.size, 0, none⟩) 1 1) [b] := by
  subst hv
  have r := Row.at w 5 ([b].map B8) _ _ rfl rfl
  exact own_row r hN 1 rfl (by omega)
theorem run_append_str (N : Nat) (a0 w : World) (ty : TypeId) (aoD : Option Addr) (nD capD : Nat) (m : List By) (hD : m.length = nD) (hown : Own N w (.slice aoD nD capD) m) (hbel : Below N a0 w)
    (s : ByteArray) (bs : List By) (hs : Lib.strCells s = bs.map B8) (n : Nat) (hn : bs.length = n) (hl : nD + n ≤ 140737488353280) :
    ∃ ao' cap' w', (Builtin.append_ #[49, 9] ty #[.slice aoD nD capD, .string s]).run Tryd.prog w = .ok (.slice ao' (nD + n) cap') w' ∧ Own N w' (.slice ao' (nD + n) cap') (m ++ bs) ∧ Below N a0 w' := by
  obtain ⟨i0, hi, hz0, hz1, hz2⟩ := info_parts Tryd.info5
  have hz : s.size = n := by have := congrArg List.length hs; rw [Lib.strCells_length, List.length_map, hn] at this; exact this
  subst hD
  obtain ⟨v', w', h1, h2, h3, _⟩ := Lib.run_append_own_string (P := Tryd.prog) w N 49 9 ty 5 i0 Tryd.underlying49 Tryd.underlying9 hi hz0 hz1 hz2 _ m.length (m.map B8) hown.1 s (by unfold maxLen; omega) (by omega) hown.2
  have hform : ∃ ao' cap', v' = .slice ao' (m.length + n) cap' := by
    rcases h2.2 with ⟨e, e0⟩ | ⟨g, c, cur, e, _⟩
    · exact ⟨none, 0, by rw [e, ← hz, e0]⟩
    · exact ⟨_, _, by rw [← hz]; exact e⟩
  obtain ⟨ao', cap', rfl⟩ := hform
  refine ⟨ao', cap', w', h1, ⟨?_, Nat.le_trans hown.2 h3.size⟩, hbel.grown h3 hown.2 (fun k hk => (hown.1.lt k hk).1)⟩
  rw [hz, hs] at h2
  rw [List.length_append, List.map_append, hn]; exact h2

/-- 'append(b, "..."...)' onto the call's own (or nil). -/
theorem wpList_append_str {ops : Array Oper} {rest : List Oper} {o : Oper} {a : Act} {w : World} {Q : Exit → Act → World → Prop} (hgd : o.guard = none) (x y : Operand)
    (ho : o.op = .call { callee := .builtin .append, args := #[x, y], argTypes := #[49, 9] })
    (N : Nat) (a0 : World) (aoD : Option Addr) (nD capD : Nat) (m : List By) (hx : a.eval x = .slice aoD nD capD) (hD : m.length = nD) (hown : Own N w (.slice aoD nD capD) m) (hbel : Below N a0 w)
    (s : ByteArray) (hy : a.eval y = .string s) (bs : List By) (hs : Lib.strCells s = bs.map B8) (n : Nat) (hn : bs.length = n) (hl : nD + n ≤ 140737488353280)
    (h : ∀ ao' cap' w', Own N w' (.slice ao' (nD + n) cap') (m ++ bs) → Below N a0 w' → wpList Tryd.prog ops Q rest (a.put o.dst (.slice ao' (nD + n) cap')) w') : wpList Tryd.prog ops Q (o :: rest) a w := by
  refine wpList_plain hgd fun K hK => ?_
  obtain ⟨ao', cap', w', hrun, h2, h3⟩ := run_append_str N a0 w o.type aoD nD capD m hD hown hbel s bs hs n hn hl
  unfold Oper.wp execOp
  simp only [ho, resolve, invoke, builtin, Sem.run_bind, Sem.run_pure, Result.andThen_ok, List.map_toArray, List.map_cons, List.map_nil, hx, hy, hrun]
  exact hK _ _ (h ao' cap' w' h2 h3)
/-- The same, at a step of a drawn region. -/
theorem step_append_str {ops : Array Oper} {o : Oper} {a : Act} {w : World} {K : Act → World → Prop} {Q : Exit → Act → World → Prop} {E : Prop} (hgd : o.guard = none) (x y : Operand)
    (ho : o.op = .call { callee := .builtin .append, args := #[x, y], argTypes := #[49, 9] })
    (N : Nat) (a0 : World) (aoD : Option Addr) (nD capD : Nat) (m : List By) (hx : a.eval x = .slice aoD nD capD) (hD : m.length = nD) (hown : Own N w (.slice aoD nD capD) m) (hbel : Below N a0 w)
    (bs : List By) (hy : a.eval y = .string (strOf bs)) (n : Nat) (hn : bs.length = n) (hl : nD + n ≤ 140737488353280)
    (h : ∀ ao' cap' w', Own N w' (.slice ao' (nD + n) cap') (m ++ bs) → Below N a0 w' → K (a.put o.dst (.slice ao' (nD + n) cap')) w') :
    if Region.wanted o (yielded ops a.tmps) = true then Oper.wp Tryd.prog o a w K Q else E := by
  have hw : Region.wanted o (yielded ops a.tmps) = true := by simp [Region.wanted, hgd]
  rw [if_pos hw]
  obtain ⟨ao', cap', w', hrun, h2, h3⟩ := run_append_str N a0 w o.type aoD nD capD m hD hown hbel (strOf bs) bs (strCells_of bs) n hn hl
  unfold Oper.wp execOp
  simp only [ho, resolve, invoke, builtin, Sem.run_bind, Sem.run_pure, Result.andThen_ok, List.map_toArray, List.map_cons, List.map_nil, hx, hy, hrun]
  exact h ao' cap' w' h2 h3
end Go.Proofs.YtgpnbiaghokjkaaDoor
