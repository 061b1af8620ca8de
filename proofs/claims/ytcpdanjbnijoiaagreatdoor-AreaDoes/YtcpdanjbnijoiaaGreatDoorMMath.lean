import Derived.Test.YtcpdanjbnijoiaaGreatDoorRows
import Derived.Test.YtcpdanjbnijoiaaGreatDoorMem
import Derived.Deep.MidRow
import Derived.WalkKit
import Derived.WalkSpells
import Derived.WalkLawsBesides
import Derived.Deep.QuietTactic
import Derived.BigQuiet
import Derived.Deep.RegionHeld3
import Derived.Test.YtcpdanjbnijoiaaGreatDoorR4Set
import Derived.Deep.DeepCutAuto
import Derived.Test.YtcpdanjbnijoiaaGreatDoorR4App
import Derived.Deep.AppendLies
import Derived.Laws.AppendOwnNone
import Derived.StillTailTactics
import Derived.Test.YtcpdanjbnijoiaaGreatDoorC4Blow
import Derived.Deep.RegionLaw
import Derived.Laws.BytesString
import Derived.Test.YtcpdanjbnijoiaaGreatDoorR4Prog

namespace Go.Proofs.YtcpdanjbnijoiaaGreatDoor
open Go.RowKit

/-- The four stores of a word, the highest byte first. -/
def put4 (w : World) (B off : Nat) (x : Wd) : World :=
  ((((w.setCell ⟨B, off, none⟩ (B8 ((x >>> 24).setWidth 8))).setCell ⟨B, off + 1, none⟩ (B8 ((x >>> 16).setWidth 8))).setCell ⟨B, off + 2, none⟩ (B8 ((x >>> 8).setWidth 8))).setCell ⟨B, off + 3, none⟩ (B8 (x.setWidth 8)))

end Go.Proofs.YtcpdanjbnijoiaaGreatDoor


namespace Go.Proofs.YtcpdanjbnijoiaaGreatDoor
open Go.RowKit

theorem word_form' (a b c d : By) : bits .or .u32 (bits .or .u32 (bits .or .u32 (IntKind.u32.wrap (IntKind.u32.wrap (a.toNat : Int) * 16777216)) (IntKind.u32.wrap (IntKind.u32.wrap (b.toNat : Int) * 65536))) (IntKind.u32.wrap (IntKind.u32.wrap (c.toNat : Int) * 256))) (IntKind.u32.wrap (d.toNat : Int)) =
    ((word4 a b c d).toNat : Int) := by
  have ha := b8_lt a
  have hb := b8_lt b
  have hc := b8_lt c
  have hd := b8_lt d
  have e1 : IntKind.u32.wrap (IntKind.u32.wrap (a.toNat : Int) * 16777216) = (a.toNat : Int) * 16777216 := by simp only [IntKind.wrap_u32']; omega
  have e2 : IntKind.u32.wrap (IntKind.u32.wrap (b.toNat : Int) * 65536) = (b.toNat : Int) * 65536 := by simp only [IntKind.wrap_u32']; omega
  have e3 : IntKind.u32.wrap (IntKind.u32.wrap (c.toNat : Int) * 256) = (c.toNat : Int) * 256 := by simp only [IntKind.wrap_u32']; omega
  have e4 : IntKind.u32.wrap (d.toNat : Int) = (d.toNat : Int) := by simp only [IntKind.wrap_u32']; omega
  rw [e1, e2, e3, e4]
  exact word_form a b c d
theorem wn_form' (x16 a x7 b : Wd) : IntKind.u32.wrap (IntKind.u32.wrap (IntKind.u32.wrap ((x16.toNat : Int) + (a.toNat : Int)) + (x7.toNat : Int)) + (b.toNat : Int)) = ((x16 + a + x7 + b).toNat : Int) := by
  rw [wrap_add_bv, wrap_add_bv, wrap_add_bv]
theorem sg_form (x : Wd) (p q n : Nat) (c : Int) (hc : c = 2 ^ n) : bits .xor .u32 (bits .xor .u32 ((rr x p).toNat : Int) ((rr x q).toNat : Int)) ((x.toNat : Int) / c) = ((rr x p ^^^ rr x q ^^^ x >>> n).toNat : Int) := by
  rw [hc, shr_bv, bits_xor_bv, bits_xor_bv]

end Go.Proofs.YtcpdanjbnijoiaaGreatDoor


namespace Go.Proofs.YtcpdanjbnijoiaaGreatDoor
open Go.RowKit

end Go.Proofs.YtcpdanjbnijoiaaGreatDoor


namespace Go.Proofs.YtcpdanjbnijoiaaGreatDoor
open Go.RowKit

end Go.Proofs.YtcpdanjbnijoiaaGreatDoor


namespace Go.Proofs.YtcpdanjbnijoiaaGreatDoor
open Go.RowKit

theorem Tryz.info5 : (Tryz.prog.info? 5).map (fun i => (i.zero, i.size, i.bytes)) = some (some (.int .u8 0), 1, 1) := by kernel_rfl

set_option maxRecDepth 100000 in
theorem wpList_append_IsB {ops : Array Oper} {rest : List Oper} {o : Oper} {a : Act} {w : World} {Q : Exit → Act → World → Prop} (hgd : o.guard = none) (s x : Operand)
    (ho : o.op = .call { callee := .builtin .append, args := #[s, x], argTypes := #[40, 40] })
    (ao : Option Addr) (cap n : Nat) (m : List By) (hn : n = m.length) (hs : a.eval s = .slice none 0 0) (hx : a.eval x = .slice ao n cap) (hb : IsB w ao m) (hcap : ao = none → cap = 0) (hm : m.length ≤ 140737488353280)
    (h : ∀ v' w', Own w.heap.size w' v' m → Below w.heap.size w w' → wpList Tryz.prog ops Q rest (a.put o.dst v') w') : wpList Tryz.prog ops Q (o :: rest) a w := by
  obtain ⟨i0, hi, hz0, hz1, hz2⟩ := info_parts Tryz.info5
  subst hn
  rcases hb with rfl | ⟨B, off, rfl, hc⟩
  · cases ao with
    | none =>
      rw [hcap rfl] at hx
      exact wpList_append_own_none hgd s x 40 ho w.heap.size 5 i0 1 Tryz.underlying40 hi _ 0 [] hs (World.ownsRow_nil _ _ _ _) hx (h _ _ ⟨World.ownsRow_nil _ _ _ _, Nat.le_refl _⟩ (Below.refl _ _))
    | some ad =>
      refine wpList_append_own w hgd s x 40 ho w.heap.size 5 i0 (.int .u8 0) 1 1 Tryz.underlying40 hi hz0 hz1 hz2 rfl (by decide) _ 0 [] hs (World.ownsRow_nil _ _ _ _) ad 0 cap [] hx (by simp) (by simp) (by simp) (by unfold maxLen; omega) (by omega) (Nat.le_refl _) ?_
      intro v' w' h1 h2 _
      exact h v' w' ⟨by simpa using h1, h2.size⟩ ((Below.refl _ _).grown h2 (Nat.le_refl _) (fun k hk => by cases hk))
  · refine wpList_append_own w hgd s x 40 ho w.heap.size 5 i0 (.int .u8 0) 1 1 Tryz.underlying40 hi hz0 hz1 hz2 rfl (by decide) _ 0 [] hs (World.ownsRow_nil _ _ _ _) _ m.length cap (m.map B8) hx (by simp) ?_ (B8_one m) ?_ ?_ (Nat.le_refl _) ?_
    · intro j u hu
      rw [Addr.add_mid]
      rw [List.getElem?_map] at hu
      cases hj : m[j]? with
      | none => rw [hj] at hu; cases hu
      | some v => rw [hj] at hu; injection hu with hu; subst hu; exact hc j v hj
    · unfold maxLen; omega
    · omega
    · intro v' w' h1 h2 _
      refine h v' w' ⟨by simpa using h1, ?_⟩ ?_
      · exact h2.size
      · exact (Below.refl _ _).grown h2 (Nat.le_refl _) (fun k hk => by cases hk)

def slen : Value → Nat
  | .slice _ n _ => n
  | _ => 0

end Go.Proofs.YtcpdanjbnijoiaaGreatDoor


namespace Go.Proofs.YtcpdanjbnijoiaaGreatDoor
open Go.RowKit

/-- Bytes that lie in a block from its place o on. -/
def Lies (w : World) (g o : Nat) (m : List By) : Prop := ∀ j, j < m.length → w.cell? ⟨g, o + j, none⟩ = some (B8 (m.getD j 0))
theorem Lies.below {w w' : World} {g o B : Nat} {m : List By} (h : Lies w g o m) (hb : Below B w w') (hg : g < B) : Lies w' g o m := fun j hj => (hb.cell (p := ⟨g, o + j, none⟩) hg).trans (h j hj)
theorem Lies.but {w w' : World} {g o g' : Nat} {m : List By} (h : Lies w g o m) (hs : SameBut g' w w') (hne : g ≠ g') : Lies w' g o m := fun j hj => (World.cell?_of_block (w := w) (hs.block g hne)).trans (h j hj)
theorem Lies.alloc {w : World} {g o : Nat} {m : List By} (h : Lies w g o m) (ob : Obj) (hg : g < w.heap.size) : Lies (w.alloc ob) g o m := fun j hj => (World.cell?_alloc_past (w := w) ob g (o + j) hg).trans (h j hj)
theorem Lies.dr {w w' : World} {g o : Nat} {m : List By} (h : Lies w g o m) (d : Dr w w') : Lies w' g o m := fun j hj => d.cell (h j hj)

theorem wpStill_load_Row {P : Program} {ops : Array Oper} {rest : List Oper} {op : Oper} {a : Act} {w : World} {Q : Act → Prop} (hgd : op.guard = none) (ty : TypeId) (x : Operand) (ho : op.op = .load ty x)
    (g o t n : Nat) (cs : List Value) (hr : Row w g t cs) (hx : a.eval x = .pointer (some ⟨g, o, none⟩)) (d : TypeDesc) (cs' : List Value) (hcs : (cs.drop o).take n = cs') (hn : cs'.length = n)
    (hu : P.underlying ty = some d) (hd : d.isRow = true) (hi : (P.info? ty).map (·.size) = some n)
    (h : wpStill P ops w Q rest (a.put op.dst (.agg cs'.toArray))) : wpStill P ops w Q (op :: rest) a := by
  subst hcs
  refine wpStill_step (fun K hK => ?_)
  have hw : Region.wanted op (yielded ops a.tmps) = true := by unfold Region.wanted; simp [hgd]
  rw [if_pos hw]
  unfold Oper.still execOp
  simp only [ho, hx, Instr.loadAt, Instr.sureAddr, Sem.run_bind, Sem.run_pure, Result.andThen_ok, run_loadVar_mid w g o ty _ d (hr.range o n) hu hd (by rw [hn]; exact hi)]
  exact ⟨rfl, hK _ h⟩

theorem hs_succ (m : List By) (n : Nat) : comp (hs m n) (pc m n) = hs m (n + 1) := by simp only [hs]
theorem pc_getD (pm : List By) (n j : Nat) (hj : j < 64) : (pc pm n).getD j 0 = pm.getD (64 * n + j) 0 := by
  unfold pc
  rw [List.getD_eq_getElem?_getD, List.getD_eq_getElem?_getD, List.getElem?_take, if_pos hj, List.getElem?_drop]

/-- The first k bytes of a row, zeros behind them. -/
def part (l : List By) (n k : Nat) : List By := l.take k ++ List.replicate (n - k) 0
theorem part_len (l : List By) (n k : Nat) (hl : l.length = n) (hk : k ≤ n) : (part l n k).length = n := by simp [part]; omega
theorem part_zero (l : List By) (n : Nat) : part l n 0 = List.replicate n 0 := by simp [part]
theorem part_all (l : List By) (n : Nat) (hl : l.length = n) : part l n n = l := by simp [part, ← hl]
theorem part_set (l : List By) (n k : Nat) (hl : l.length = n) (hk : k < n) : (part l n k).set k (l.getD k 0) = part l n (k + 1) := by
  unfold part
  rw [List.set_append_right _ _ (by simp; omega)]
  have e1 : k - (l.take k).length = 0 := by simp; omega
  rw [e1, show n - k = (n - (k + 1)) + 1 by omega, List.replicate_succ, List.set_cons_zero]
  have : l[k]? = some l[k] := List.getElem?_eq_getElem (by omega)
  rw [List.take_add_one, this, List.getD_eq_getElem?_getD, this, List.append_assoc]
  rfl
theorem map_set_B8 (l : List By) (i : Nat) (x : By) : (l.map B8).set i (.int .u8 (x.toNat : Int)) = (l.set i x).map B8 := by
  rw [List.map_set]; rfl
theorem out_len (s : S8) : (out s).length = 32 := rfl
theorem out_get0 (s : S8) (q : Nat) (hq : q < 8) : (out s).getD (4 * q) 0 = (s.list.getD q 0 >>> 24).setWidth 8 := by
  have : q = 0 ∨ q = 1 ∨ q = 2 ∨ q = 3 ∨ q = 4 ∨ q = 5 ∨ q = 6 ∨ q = 7 := by omega
  rcases this with rfl | rfl | rfl | rfl | rfl | rfl | rfl | rfl <;> rfl
theorem out_get1 (s : S8) (q : Nat) (hq : q < 8) : (out s).getD (4 * q + 1) 0 = (s.list.getD q 0 >>> 16).setWidth 8 := by
  have : q = 0 ∨ q = 1 ∨ q = 2 ∨ q = 3 ∨ q = 4 ∨ q = 5 ∨ q = 6 ∨ q = 7 := by omega
  rcases this with rfl | rfl | rfl | rfl | rfl | rfl | rfl | rfl <;> rfl
theorem out_get2 (s : S8) (q : Nat) (hq : q < 8) : (out s).getD (4 * q + 2) 0 = (s.list.getD q 0 >>> 8).setWidth 8 := by
  have : q = 0 ∨ q = 1 ∨ q = 2 ∨ q = 3 ∨ q = 4 ∨ q = 5 ∨ q = 6 ∨ q = 7 := by omega
  rcases this with rfl | rfl | rfl | rfl | rfl | rfl | rfl | rfl <;> rfl
theorem out_get3 (s : S8) (q : Nat) (hq : q < 8) : (out s).getD (4 * q + 3) 0 = (s.list.getD q 0).setWidth 8 := by
  have : q = 0 ∨ q = 1 ∨ q = 2 ∨ q = 3 ∨ q = 4 ∨ q = 5 ∨ q = 6 ∨ q = 7 := by omega
  rcases this with rfl | rfl | rfl | rfl | rfl | rfl | rfl | rfl <;> rfl

end Go.Proofs.YtcpdanjbnijoiaaGreatDoor


namespace Go.Proofs.YtcpdanjbnijoiaaGreatDoor
open Go.RowKit
set_option maxRecDepth 100000

theorem conv_bytes (w : World) (ao : Option Addr) (n cap : Nat) (bs : List By) (hn : bs.length = n) (hb : IsB w ao bs) :
    (convert 40 9 (.slice ao n cap)).run Tryz.prog w = .ok (.string (strOf bs)) w := by
  subst hn
  rw [run_convert_bytes_string w 40 9 5 ao bs.length cap Tryz.underlying40 Tryz.underlying5 Tryz.underlying9]
  have key : ∀ a : Addr, (∀ j v, (bs.map B8)[j]? = some v → w.cell? (a.add j) = some v) → (Conv.bytesToString (.slice (some a) bs.length cap)).run Tryz.prog w = .ok (.string (strOf bs)) w := by
    intro a h
    have hl := run_loadCells_list (P := Tryz.prog) w a (bs.map B8) h
    rw [List.length_map] at hl
    have e : bs.map B8 = (bs.map fun b => (b.toNat : Int)).map (Value.int .u8) := by
      rw [List.map_map]; rfl
    rw [e] at hl
    exact run_bytesToString w a bs.length cap _ hl
  rcases hb with rfl | ⟨B, off, rfl, hc⟩
  · cases ao with
    | none => rfl
    | some a => exact key a (by simp)
  · refine key _ ?_
    intro j u hu
    rw [Addr.add_mid]
    rw [List.getElem?_map] at hu
    cases hj : bs[j]? with
    | none => rw [hj] at hu; cases hu
    | some v => rw [hj] at hu; injection hu with hu; subst hu; exact hc j v hj

end Go.Proofs.YtcpdanjbnijoiaaGreatDoor


/-! Rows of bytes held against each other: the code's, and the document's. -/
namespace Go.Proofs.YtcpdanjbnijoiaaGreatDoor
open Go.RowKit

theorem bits8_xor (x y : By) : bits .xor .u8 (x.toNat : Int) (y.toNat : Int) = ((x ^^^ y).toNat : Int) := by
  show IntKind.u8.wrap ((BitVec.ofInt 8 (x.toNat : Int) ^^^ BitVec.ofInt 8 (y.toNat : Int)).toNat : Int) = _
  rw [bv8_ofInt, bv8_ofInt, IntKind.wrap_u8']
  have := b8_lt (x ^^^ y)
  omega

theorem IsB.cell {w : World} {ao : Option Addr} {m : List By} (h : IsB w ao m) (j : Nat) (hj : j < m.length) : ∃ B off, ao = some ⟨B, off, none⟩ ∧ w.cell? ⟨B, off + j, none⟩ = some (.int .u8 ((m.getD j 0).toNat : Int)) := by
  rcases h with rfl | ⟨B, off, rfl, hc⟩
  · simp at hj
  · refine ⟨B, off, rfl, ?_⟩
    have := hc j (m.getD j 0) (by rw [List.getD_eq_getElem?_getD, List.getElem?_eq_getElem hj]; rfl)
    exact this

def SameTo (a b : List By) (k : Nat) : Prop := a.length = b.length ∧ ∀ j, j < k → a.getD j 0 = b.getD j 0
theorem sameTo_all {a b : List By} {k : Nat} (h : SameTo a b k) (hk : a.length ≤ k) : a = b := by
  obtain ⟨h1, h2⟩ := h
  apply List.ext_getElem h1
  intro i hi hi'
  have := h2 i (by omega)
  simpa [List.getD_eq_getElem?_getD, hi, hi'] using this
theorem sameTo_refl (a : List By) (k : Nat) : SameTo a a k := ⟨rfl, fun _ _ => rfl⟩
theorem or_zero (x y z : By) : (x ||| (y ^^^ z)) = 0 ↔ x = 0 ∧ y = z := by
  constructor
  · intro h
    have h1 : x = 0 := by
      apply BitVec.eq_of_getLsbD_eq
      intro i hi
      have := congrArg (fun v => v.getLsbD i) h
      simp at this ⊢
      exact this.1
    refine ⟨h1, ?_⟩
    subst h1
    apply BitVec.eq_of_getLsbD_eq
    intro i hi
    have := congrArg (fun v => v.getLsbD i) h
    simpa using this
  · rintro ⟨rfl, rfl⟩; simp

end Go.Proofs.YtcpdanjbnijoiaaGreatDoor


/-! The document's HMAC on lists of bytes. -/
namespace Go.Proofs.YtcpdanjbnijoiaaGreatDoor
open Go.RowKit

def kh (k : List By) : List By := if 64 < k.length then sha k else k
/-- A key's block key. -/
def kb (k : List By) : List By := kh k ++ List.replicate (64 - (kh k).length) 0
/-- Bytes, each under exclusive or with one. -/
def tn (l : List By) (x : By) : List By := l.map (· ^^^ x)
/-- The tag of bytes under a key. -/
def tag (k b : List By) : List By := sha (tn (kb k) 92#8 ++ sha (tn (kb k) 54#8 ++ b))

theorem shaLen (m : List By) : (sha m).length = 32 := rfl
theorem tag_len (k b : List By) : (tag k b).length = 32 := rfl
theorem kh_le (k : List By) : (kh k).length ≤ 64 := by
  unfold kh
  split
  · rw [shaLen]; omega
  · omega
theorem kb_len (k : List By) : (kb k).length = 64 := by
  have := kh_le k
  unfold kb
  rw [List.length_append, List.length_replicate]; omega
theorem tn_len (l : List By) (x : By) : (tn l x).length = l.length := by simp [tn]
theorem tn_take (l : List By) (x : By) (k : Nat) (hk : k < l.length) : tn (l.take (k + 1)) x = tn (l.take k) x ++ [l.getD k 0 ^^^ x] := by
  unfold tn
  rw [List.take_add_one, List.map_append, List.getElem?_eq_getElem hk, List.getD_eq_getElem?_getD, List.getElem?_eq_getElem hk]; rfl
theorem kb_short (k : List By) (h : k.length ≤ 64) : kb k = k ++ List.replicate (64 - k.length) 0 := by
  have e : kh k = k := by unfold kh; rw [if_neg (by omega)]
  unfold kb; rw [e]
theorem kb_long (k : List By) (h : 64 < k.length) : kb k = sha k ++ List.replicate 32 0 := by
  have e : kh k = sha k := by unfold kh; rw [if_pos h]
  unfold kb; rw [e, shaLen]
/-- Keys that are the same but for bytes 00 up to a block's end. -/
theorem kb_wide (k : List By) (n : Nat) (h : k.length + n ≤ 64) : kb (k ++ List.replicate n 0) = kb k := by
  rw [kb_short k (by omega), kb_short _ (by rw [List.length_append, List.length_replicate]; omega), List.append_assoc, List.replicate_append_replicate, List.length_append, List.length_replicate]
  congr 2; omega
theorem kb_hash (k : List By) (h : 64 < k.length) : kb (sha k) = kb k := by
  rw [kb_long k h, kb_short (sha k) (by rw [shaLen]; omega), shaLen]
theorem tag_wide (k b : List By) (n : Nat) (h : k.length + n ≤ 64) : tag (k ++ List.replicate n 0) b = tag k b := by unfold tag; rw [kb_wide k n h]
theorem tag_hash (k b : List By) (h : 64 < k.length) : tag (sha k) b = tag k b := by unfold tag; rw [kb_hash k h]

end Go.Proofs.YtcpdanjbnijoiaaGreatDoor
