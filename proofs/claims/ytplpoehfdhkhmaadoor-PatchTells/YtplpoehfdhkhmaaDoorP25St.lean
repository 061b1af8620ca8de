import Derived.Test.YtplpoehfdhkhmaaDoorPadded
import Derived.BigQuiet
import Derived.Test.YtplpoehfdhkhmaaDoorOpenA
import Derived.Test.YtplpoehfdhkhmaaDoorWords
import Derived.Deep.RegionHeld3

/-! Rows of bytes held against each other: the code's, and the document's. -/
namespace Go.Proofs.YtplpoehfdhkhmaaDoor
open Go.RowKit

theorem IsB.cell {w : World} {ao : Option Addr} {m : List By} (h : IsB w ao m) (j : Nat) (hj : j < m.length) : ∃ B off, ao = some ⟨B, off, none⟩ /\ w.cell? ⟨B, off + j, none⟩ = some (.int .u8 ((m.getD j 0).toNat : Int)) := by
  rcases h with rfl | ⟨B, off, rfl, hc⟩
  · simp at hj
  · refine ⟨B, off, rfl, ?_⟩
    have := hc j (m.getD j 0) (by rw [List.getD_eq_getElem?_getD, List.getElem?_eq_getElem hj]; rfl)
    exact this

end Go.Proofs.YtplpoehfdhkhmaaDoor


/-! The document's HMAC on lists of bytes. -/
namespace Go.Proofs.YtplpoehfdhkhmaaDoor
open Go.RowKit

def kh (k : List By) : List By := if 64 < k.length then sha k else k
/-- A key's block key. -/
def kb (k : List By) : List By := kh k ++ List.replicate (64 - (kh k).length) 0
/-- Bytes, each under exclusive or with one. -/
def tn (l : List By) (x : By) : List By := l.map (· ^^^ x)
theorem shaLen (m : List By) : (sha m).length = 32 := rfl
end Go.Proofs.YtplpoehfdhkhmaaDoor


/-! The document's images on lists of bytes. -/
namespace Go.Proofs.YtplpoehfdhkhmaaDoor
open Go.RowKit

/-- Four bytes of a number, the lowest one first. -/
def le4 (n : Nat) : List By := [BitVec.ofNat 8 n, BitVec.ofNat 8 (n / 256), BitVec.ofNat 8 (n / 65536), BitVec.ofNat 8 (n / 16777216)]
/-- The number of four bytes. -/
def num4 (b : List By) : Nat := (b.getD 0 0).toNat + (b.getD 1 0).toNat * 256 + (b.getD 2 0).toNat * 65536 + (b.getD 3 0).toNat * 16777216
theorem le4_len (n : Nat) : (le4 n).length = 4 := rfl
theorem num4_lt (b : List By) : num4 b < 4294967296 := by
  unfold num4
  have h := fun i => (b.getD i 0).isLt
  have h0 := h 0; have h1 := h 1; have h2 := h 2; have h3 := h 3
  simp only [Nat.reducePow] at h0 h1 h2 h3
  omega
theorem num4_le4 (n : Nat) (h : n < 4294967296) (r : List By) : num4 (le4 n ++ r) = n := by
  simp only [num4, le4, List.cons_append, List.getD_cons_zero, List.getD_cons_succ, BitVec.toNat_ofNat]
  omega
theorem num4_drop (b : List By) (n : Nat) : num4 (b.drop n) = num4 [b.getD n 0, b.getD (n + 1) 0, b.getD (n + 2) 0, b.getD (n + 3) 0] := by
  simp only [num4, List.getD_eq_getElem?_getD, List.getElem?_drop, Nat.add_zero]; rfl
end Go.Proofs.YtplpoehfdhkhmaaDoor


/-! The document's patch, as data. -/
namespace Go.Proofs.YtplpoehfdhkhmaaDoor
open Go.RowKit
set_option linter.unusedVariables false

/-- A part: a copy, or a lay. -/
structure Pt where
  lay : Bool
  frm : Nat
  n : Nat
  b : List By
/-- A patch, taken apart. -/
structure PX where
  old : List By
  new : List By
  before : Nat
  after : Nat
  l : List Pt
/-- What reading tells: an error and its place, or a patch. -/
abbrev RX25 := Except (Nat × Nat) PX
def hd5 : List By := [80#8, 67#8, 80#8, 84#8, 1#8]
/-- The first 77 bytes, from a place on. -/
def sE (p : List By) : Nat -> Nat -> Option (Nat × Nat)
  | _, 0 => none
  | i, k + 1 => if i = p.length then some (6, i) else if i < 5 /\ p.getD i 0 ≠ hd5.getD i 0 then some (5, i) else if i = 72 /\ 524288 < num4 (p.drop 69) then some (5, 69) else sE p (i + 1) k
def startR (p : List By) : RX25 :=
  match sE p 0 77 with
  | some (e, a) => .error (e, a)
  | none => if 524288 < num4 (p.drop 73) then .error (5, 73) else .ok ⟨(p.drop 5).take 32, (p.drop 37).take 32, num4 (p.drop 69), num4 (p.drop 73), []⟩
/-- May a part stand behind others? -/
def behB (l : List Pt) (lay : Bool) (f : Nat) : Bool :=
  match l.getLast? with
  | none => true
  | some x => if x.lay && lay then false else x.lay || lay || (x.frm + x.n != f)
/-- Where a part's own bytes begin, by its first byte. -/
def nxt (c a : Nat) : Nat := if c = 2 then a + 5 else a + 9
def frmOf (p : List By) (c a : Nat) : Nat := if c = 2 then 0 else num4 (p.drop (a + 1))
def partR (bef aft : Nat) (l : List Pt) (p : List By) (a hv : Nat) : Except (Nat × Nat) (Pt × Nat) :=
  if p.length <= a then .error (6, p.length)
  else if (p.getD a 0).toNat ≠ 1 /\ (p.getD a 0).toNat ≠ 2 then .error (5, a)
  else if p.length < nxt (p.getD a 0).toNat a then .error (6, p.length)
  else if num4 (p.drop (nxt (p.getD a 0).toNat a - 4)) < 1 ∨ aft < hv + num4 (p.drop (nxt (p.getD a 0).toNat a - 4)) ∨ ((p.getD a 0).toNat = 1 /\ bef < frmOf p (p.getD a 0).toNat a + num4 (p.drop (nxt (p.getD a 0).toNat a - 4))) ∨ behB l (decide ((p.getD a 0).toNat = 2)) (frmOf p (p.getD a 0).toNat a) = false then .error (5, a)
  else if (p.getD a 0).toNat = 2 then
    if p.length < a + 5 + num4 (p.drop (a + 1)) then .error (6, p.length)
    else .ok (⟨true, 0, num4 (p.drop (a + 1)), (p.drop (a + 5)).take (num4 (p.drop (a + 1)))⟩, a + 5 + num4 (p.drop (a + 1)))
  else .ok (⟨false, num4 (p.drop (a + 1)), num4 (p.drop (a + 5)), []⟩, a + 9)
/-- Part by part. -/
def readL (bef aft : Nat) (p : List By) : Nat -> Nat -> Nat -> List Pt -> Except (Nat × Nat) (List Pt × Nat)
  | 0, a, _, l => .ok (l, a)
  | k + 1, a, hv, l => if aft <= hv then .ok (l, a) else
    match partR bef aft l p a hv with
    | .error e => .error e
    | .ok (y, nx) => readL bef aft p k nx (hv + y.n) (l ++ [y])
def readR (p : List By) : RX25 :=
  match startR p with
  | .error (e, a) => .error (e, a)
  | .ok x =>
    match readL x.before x.after p x.after 77 0 [] with
    | .error (e, a) => .error (e, a)
    | .ok (l, a) => if a < p.length then .error (7, a) else .ok { x with l := l }
/-- What parts tell of a row. -/
def ptB (old : List By) (y : Pt) : List By := if y.lay then y.b else (old.drop y.frm).take y.n
def tells (l : List Pt) (old : List By) : List By := l.flatMap (ptB old)
def laidN (l : List Pt) : Nat := (l.map fun y => if y.lay then y.n else 0).sum

theorem or64p (a b : Nat) (ha : a < 4294967296) (hb : b < 4294967296) : bits .or .i64 (a : Int) (b : Int) = ((a ||| b : Nat) : Int) := by
  have h := Nat.or_lt_two_pow (n := 32) ha hb
  simp only [Nat.reducePow] at h
  have e : 2 ^ IntKind.i64.bits = 18446744073709551616 := rfl
  simp [bits]
  rw [e, Nat.mod_eq_of_lt (by omega), Nat.mod_eq_of_lt (by omega)]
  exact i64_in _ (by omega) (by omega)
theorem or_nump (x0 x1 x2 x3 : Nat) (h0 : x0 < 256) (h1 : x1 < 256) (h2 : x2 < 256) : ((x0 ||| x1 * 256) ||| x2 * 65536) ||| x3 * 16777216 = x0 + x1 * 256 + x2 * 65536 + x3 * 16777216 := by
  have e1 : x0 ||| x1 * 256 = x0 + x1 * 256 := by
    rw [Nat.or_comm, Nat.mul_comm x1, show (256 : Nat) = 2 ^ 8 by rfl, <- Nat.two_pow_add_eq_or_of_lt (by simpa using h0)]; omega
  have e2 : (x0 + x1 * 256) ||| x2 * 65536 = x0 + x1 * 256 + x2 * 65536 := by
    rw [Nat.or_comm, Nat.mul_comm x2, show (65536 : Nat) = 2 ^ 16 by rfl, <- Nat.two_pow_add_eq_or_of_lt (by simp only [Nat.reducePow]; omega)]; omega
  have e3 : (x0 + x1 * 256 + x2 * 65536) ||| x3 * 16777216 = x0 + x1 * 256 + x2 * 65536 + x3 * 16777216 := by
    rw [Nat.or_comm, Nat.mul_comm x3, show (16777216 : Nat) = 2 ^ 24 by rfl, <- Nat.two_pow_add_eq_or_of_lt (by simp only [Nat.reducePow]; omega)]; omega
  rw [e1, e2, e3]
theorem num_formp (x0 x1 x2 x3 : Nat) (h0 : x0 < 256) (h1 : x1 < 256) (h2 : x2 < 256) (h3 : x3 < 256) :
    bits .or .i64 (bits .or .i64 (bits .or .i64 (x0 : Int) ((x1 : Int) * 256)) ((x2 : Int) * 65536)) ((x3 : Int) * 16777216) = ((x0 + x1 * 256 + x2 * 65536 + x3 * 16777216 : Nat) : Int) := by
  have q := or_nump x0 x1 x2 x3 h0 h1 h2
  have l1 : x0 ||| x1 * 256 < 2 ^ 32 := Nat.or_lt_two_pow (by simp only [Nat.reducePow]; omega) (by simp only [Nat.reducePow]; omega)
  have l2 : (x0 ||| x1 * 256) ||| x2 * 65536 < 2 ^ 32 := Nat.or_lt_two_pow l1 (by simp only [Nat.reducePow]; omega)
  simp only [Nat.reducePow] at l1 l2
  have a1 : bits .or .i64 (x0 : Int) ((x1 : Int) * 256) = ((x0 ||| x1 * 256 : Nat) : Int) := by
    have := or64p x0 (x1 * 256) (by omega) (by omega); rw [<- this]; congr 1
  rw [a1]
  have a2 : bits .or .i64 ((x0 ||| x1 * 256 : Nat) : Int) ((x2 : Int) * 65536) = (((x0 ||| x1 * 256) ||| x2 * 65536 : Nat) : Int) := by
    have := or64p (x0 ||| x1 * 256) (x2 * 65536) l1 (by omega); rw [<- this]; congr 1
  rw [a2]
  have a3 : bits .or .i64 (((x0 ||| x1 * 256) ||| x2 * 65536 : Nat) : Int) ((x3 : Int) * 16777216) = ((((x0 ||| x1 * 256) ||| x2 * 65536) ||| x3 * 16777216 : Nat) : Int) := by
    have := or64p ((x0 ||| x1 * 256) ||| x2 * 65536) (x3 * 16777216) l2 (by omega); rw [<- this]; congr 1
  rw [a3, q]
end Go.Proofs.YtplpoehfdhkhmaaDoor


/-! A drawn region by an invariant over what has come up: one step an operation, whatever the number of orders. -/
namespace Go.Proofs.YtplpoehfdhkhmaaDoor
open Go.RowKit

def onesOf (o : Oper) : List Nat := (o.after.toList.filter (Region.binds .any)).map (·.on)

/-- Each operation waits for earlier ones alone. -/
def dagB (ops : Array Oper) : Bool := (List.range ops.size).all fun i => ((ops[i]?).map fun o => (onesOf o).all (· < i)).getD true

/-- 'L' with number 'i' besides. -/
def upd (L : Nat -> Bool) (i : Nat) : Nat -> Bool := fun j => if j = i then true else L j

/-- One operation keeps the invariant. -/
def StepI (P : Program) (ops : Array Oper) (I : (Nat -> Bool) -> Act -> World -> Prop) (Q : Exit -> Act -> World -> Prop) (i : Nat) (o : Oper) : Prop :=
  ∀ (L : Nat -> Bool) (a : Act) (w : World), I L a w -> L i = false -> (∀ j ∈ onesOf o, L j = true) -> ∀ K : Act -> World -> Prop, Shut (∀ a' w', I (upd L i) a' w' -> K a' w') ->
    if Region.wanted o (yielded ops a.tmps) = true then Oper.wp P o a w K Q else K (a.put o.dst undef) w

/-- All operations of a list, the first of them number 'n'. -/
def StepsI (P : Program) (ops : Array Oper) (I : (Nat -> Bool) -> Act -> World -> Prop) (Q : Exit -> Act -> World -> Prop) : Nat -> List Oper -> Prop
  | _, [] => True
  | n, o :: r => StepI P ops I Q n o /\ StepsI P ops I Q (n + 1) r

theorem StepsI.at {P : Program} {ops : Array Oper} {I : (Nat -> Bool) -> Act -> World -> Prop} {Q : Exit -> Act -> World -> Prop} : ∀ (l : List Oper) (n : Nat), StepsI P ops I Q n l -> ∀ (i : Nat) (o : Oper), l[i]? = some o -> StepI P ops I Q (n + i) o
  | [], _, _, _, _, h => by simp at h
  | x :: r, n, hs, 0, o, h => by
    simp at h; subst h; exact hs.1
  | x :: r, n, hs, i + 1, o, h => by
    have := StepsI.at r (n + 1) hs.2 i o (by simpa using h)
    rw [show n + (i + 1) = n + 1 + i by omega]; exact this

def asL (l : Array Bool) : Nat -> Bool := fun j => l.getD j false

theorem asL_set (l : Array Bool) (i : Nat) (h : i < l.size) : asL (l.setIfInBounds i true) = upd (asL l) i := by
  funext j
  unfold asL upd
  by_cases hj : j = i
  · subst hj; simp [h]
  · rw [if_neg hj, getD_set_ne false (fun e => hj e.symm)]

theorem wp_region_inv {P : Program} {ops : Array Oper} {Q : Exit -> Act -> World -> Prop} {id : Nat} {a : Act} {w : World} (I : (Nat -> Bool) -> Act -> World -> Prop) (hm : P.follows .mixedOrders = true) (hd : dagB ops = true)
    (h0 : I (fun _ => false) a w.drew) (hs : StepsI P ops I Q 0 ops.toList) (he : ∀ L a' w', (∀ j, j < ops.size -> L j = true) -> I L a' w' -> Q .normal a' w') : (Code.region id ops true).wp P Q a w := by
  have hall : ∀ l : Array Bool, l.size = ops.size -> Region.ready .any ops l = [] -> ∀ j, j < ops.size -> asL l j = true := by
    intro l hl hr j
    induction j using Nat.strongRecOn with
    | _ j ih =>
      intro hj
      cases hb : asL l j with
      | true => rfl
      | false =>
        exfalso
        have hm : j ∈ Region.ready .any ops l := by
          rw [mem_ready]
          refine ⟨?_, ops[j], Array.getElem?_eq_getElem hj, fun e hme hbe => ?_⟩
          · unfold asL at hb
            simp [hl, hj] at hb ⊢; exact hb
          · have h1 : e.on ∈ onesOf ops[j] := by
              unfold onesOf
              exact List.mem_map.2 ⟨e, List.mem_filter.2 ⟨by simpa using hme, hbe⟩, rfl⟩
            unfold dagB at hd
            rw [List.all_eq_true] at hd
            have h2 := hd j (List.mem_range.2 hj)
            rw [Array.getElem?_eq_getElem hj] at h2
            simp only [Option.map_some, Option.getD_some, List.all_eq_true, decide_eq_true_eq] at h2
            have h3 := h2 _ h1
            exact ih _ h3 (by omega)
        rw [hr] at hm; cases hm
  have hmain : ∀ (fuel : Nat) (l : Array Bool) (a : Act) (w : World), l.size = ops.size -> (l.toList.filter (! ·)).length <= fuel -> I (asL l) a w -> wpAny P .any ops Q fuel l a w := by
    intro fuel
    induction fuel with
    | zero =>
      intro l a w hl hc hI
      have hr : Region.ready .any ops l = [] := by
        apply List.eq_nil_iff_forall_not_mem.2
        intro j hj
        obtain ⟨h1, o, ho, _⟩ := mem_ready.1 hj
        have hlt : j < l.size := by rw [hl]; exact (Array.getElem?_eq_some_iff.1 ho).1
        have : l[j] ∈ l.toList.filter (! ·) := List.mem_filter.2 ⟨by simp, by simp [hlt] at h1; simp [h1]⟩
        have h2 := List.length_pos_of_mem this
        omega
      exact ⟨hr, he _ _ _ (hall l hl hr) hI⟩
    | succ fuel ih =>
      intro l a w hl hc hI
      refine ⟨fun hr => he _ _ _ (hall l hl hr) hI, fun i hi => ?_⟩
      obtain ⟨h1, o, ho, h2⟩ := mem_ready.1 hi
      have hlt : i < l.size := by rw [hl]; exact (Array.getElem?_eq_some_iff.1 ho).1
      have hfi : asL l i = false := by unfold asL; simp [hlt] at h1 ⊢; exact h1
      have hst := StepsI.at ops.toList 0 hs i o (by simpa using ho)
      rw [Nat.zero_add] at hst
      refine wpOp_step ho fun K hK => hst (asL l) a w hI hfi ?_ K ?_
      · intro j hj
        unfold onesOf at hj
        obtain ⟨e, hme, rfl⟩ := List.mem_map.1 hj
        obtain ⟨h3, h4⟩ := List.mem_filter.1 hme
        exact h2 e (by simpa using h3) h4
      · intro a' w' hI'
        refine hK a' w' (ih _ a' w' (by simpa using hl) ?_ (by rw [asL_set l i hlt]; exact hI'))
        have h5 : l[i] = false := by simp [hlt] at h1; exact h1
        have h6 : ((l.setIfInBounds i true).toList.filter (! ·)).length + 1 <= (l.toList.filter (! ·)).length := by
          rw [Array.toList_setIfInBounds]
          clear hI' hK hI hst hfi hc hl h2
          have h7 : l.toList[i]? = some false := by simp [hlt, h5]
          generalize l.toList = ll at h7 ⊢
          clear hi h1 h5 hlt ho
          induction ll generalizing i with
          | nil => simp at h7
          | cons y r ihl =>
            cases i with
            | zero => simp at h7; subst h7; simp
            | succ i =>
              have := ihl i (by simpa using h7)
              cases y <;> simp at this ⊢ <;> omega
        omega
  refine wp_region_any hm ?_
  refine hmain _ _ _ _ (by simp) ?_ ?_
  · refine Nat.le_trans (List.length_filter_le _ _) (by simp)
  · have : asL (Array.replicate ops.size false) = fun _ => false := by
      funext j; unfold asL
      by_cases hj : j < ops.size <;> simp [hj]
    rw [this]; exact h0

/-- The invariant, once for each operation. -/
theorem StepsI.cons {P : Program} {ops : Array Oper} {I : (Nat -> Bool) -> Act -> World -> Prop} {Q : Exit -> Act -> World -> Prop} {n : Nat} {o : Oper} {r : List Oper} (h : StepI P ops I Q n o) (hr : StepsI P ops I Q (n + 1) r) : StepsI P ops I Q n (o :: r) := ⟨h, hr⟩
theorem StepsI.nil {P : Program} {ops : Array Oper} {I : (Nat -> Bool) -> Act -> World -> Prop} {Q : Exit -> Act -> World -> Prop} {n : Nat} : StepsI P ops I Q n [] := trivial
end Go.Proofs.YtplpoehfdhkhmaaDoor


/-! The reference's patch: number, must. -/
namespace Go.Proofs.YtplpoehfdhkhmaaDoor
open Go.RowKit
set_option linter.unusedVariables false

theorem cell_lt25 {w : World} {p : Addr} {v : Value} (h : w.cell? p = some v) : p.block < w.heap.size := block_lt_of_cell h

set_option maxHeartbeats 1000000 in
set_option maxRecDepth 100000 in
theorem r25number_any (B off n cap : Nat) (p : List By) (hn : p.length = n) (hb47 : n <= 140737488355328) (a : Nat) (h4 : a + 4 <= n) (w : World) (hb : IsB w (some ⟨B, off, none⟩) p) :
    Calls Tryd.prog 40 #[.slice (some ⟨B, off, none⟩) n cap, .int .i64 a] w fun e w' => e = .returned (.int .i64 (num4 (p.drop a))) /\ Below w.heap.size w w' := by
  have c : ∀ j, j < n -> w.cell? ⟨B, off + j, none⟩ = some (.int .u8 ((p.getD j 0).toNat : Int)) := fun j hj => by
    rcases hb with rfl | ⟨B', off', e, hc⟩
    · simp at hn; omega
    · injection e with e
      injection e with e1 e2
      subst e1 e2
      rw [hc j p[j] (List.getElem?_eq_getElem (by omega)), getD_lt (by omega)]; rfl
  have c0 := c a (by omega); have c1 := c (a + 1) (by omega); have c2 := c (a + 2) (by omega); have c3 := c (a + 3) (by omega)
  have i0 : (0 : Int) <= (a : Int) := by omega
  have i1 : (0 : Int) <= (a : Int) + 1 := by omega
  have i2 : (0 : Int) <= (a : Int) + 2 := by omega
  have i3 : (0 : Int) <= (a : Int) + 3 := by omega
  have j0 : (a : Int) < (n : Int) := by omega
  have j1 : (a : Int) + 1 < (n : Int) := by omega
  have j2 : (a : Int) + 2 < (n : Int) := by omega
  have j3 : (a : Int) + 3 < (n : Int) := by omega
  have z1 : IntKind.i64.wrap ((a : Int) + 1) = (a : Int) + 1 := i64_in _ (by omega) (by omega)
  have z2 : IntKind.i64.wrap ((a : Int) + 2) = (a : Int) + 2 := i64_in _ (by omega) (by omega)
  have z3 : IntKind.i64.wrap ((a : Int) + 3) = (a : Int) + 3 := i64_in _ (by omega) (by omega)
  have t1 : ((a : Int) + 1).toNat = a + 1 := by omega
  have t2 : ((a : Int) + 2).toNat = a + 2 := by omega
  have t3 : ((a : Int) + 3).toNat = a + 3 := by omega
  have HN : Hid (num4 (p.drop a) = (p.getD a 0).toNat + (p.getD (a + 1) 0).toNat * 256 + (p.getD (a + 2) 0).toNat * 65536 + (p.getD (a + 3) 0).toNat * 16777216) := by
    show _ = _
    rw [num4_drop]; rfl
  have h0 := (p.getD a 0).isLt; have h1 := (p.getD (a + 1) 0).isLt; have h2 := (p.getD (a + 2) 0).isLt; have h3 := (p.getD (a + 3) 0).isLt
  simp only [Nat.reducePow] at h0 h1 h2 h3
  clear c hb hn
  generalize (p.getD a 0).toNat = x0 at *
  generalize (p.getD (a + 1) 0).toNat = x1 at *
  generalize (p.getD (a + 2) 0).toNat = x2 at *
  generalize (p.getD (a + 3) 0).toNat = x3 at *
  have y1 : IntKind.i64.wrap ((x1 : Int) * 256) = (x1 : Int) * 256 := i64_in _ (by omega) (by omega)
  have y2 : IntKind.i64.wrap ((x2 : Int) * 65536) = (x2 : Int) * 65536 := i64_in _ (by omega) (by omega)
  have y3 : IntKind.i64.wrap ((x3 : Int) * 16777216) = (x3 : Int) * 16777216 := i64_in _ (by omega) (by omega)
  go_enter Tryd.func40, Tryd.ntmps40
  go_wp2_with fail
  go_quiet (fail)
  go_wp2
  go_ret
  refine ⟨?_, ?_⟩
  · rw [HN.out, <- num_formp x0 x1 x2 x3 h0 h1 h2 h3]
    first | rfl | simp
  · exact Below_dr (Below.refl _ _) ⟨_, rfl⟩

set_option maxHeartbeats 1000000 in
theorem r25must_any (w : World) : Calls Tryd.prog 39 #[] w fun e w' => e = .returned (.slice (some ⟨w.heap.size, 0, none⟩) 5 5) /\ w' = w.alloc (.cells (hd5.map B8).toArray 5) := by
  go_enter Tryd.func39, Tryd.ntmps39
  go_wp2
  go_ret
  exact ⟨rfl, rfl⟩
end Go.Proofs.YtplpoehfdhkhmaaDoor


/-! The reference's patch: behind. -/
namespace Go.Proofs.YtplpoehfdhkhmaaDoor
open Go.RowKit
set_option linter.unusedVariables false

/-- A part's cells. -/
def ptC (lay : Bool) (f n : Nat) (sl : Value) : List Value := [.bool lay, .int .i64 (f : Int), .int .i64 (n : Int), sl]
abbrev zPt : List Value := [.bool false, .int .i64 0, .int .i64 0, .slice none 0 0]
theorem last_of {l : List Pt} (h : 0 < l.length) : ∃ x, l.getLast? = some x /\ l[l.length - 1]? = some x := by
  rw [List.getLast?_eq_getElem?]
  exact ⟨l[l.length - 1], List.getElem?_eq_getElem (by omega), List.getElem?_eq_getElem (by omega)⟩

set_option maxHeartbeats 1000000 in
set_option maxRecDepth 100000 in
theorem r25behind_any (w : World) (ao : Option Addr) (n c B : Nat) (l : List Pt) (hl : l.length = n) (hn : n <= 140737488355328) (hao : 0 < n -> ao = some ⟨B, 0, none⟩)
    (hc : ∀ i x, l[i]? = some x -> (∃ m k c', w.rangeAt B (i * 4) (ptC x.lay x.frm x.n (.slice m k c'))) /\ x.frm < 4294967296 /\ x.n < 4294967296) (lay : Bool) (f yn : Nat) (yo : Option Addr) (yk yc : Nat) :
    Calls Tryd.prog 41 #[.slice ao n c, .agg (ptC lay f yn (.slice yo yk yc)).toArray] w fun e w' => e = .returned (.bool (behB l lay f)) /\ Below w.heap.size w w' := by
  have b1 : Below w.heap.size w (w.alloc (.cells (ptC lay f yn (.slice yo yk yc)).toArray 65)) := (Below.refl _ _).alloc (Nat.le_refl _) _
  by_cases h0 : n = 0
  · have HE : Hid (behB l lay f = true) := by
      show _ = _
      have : l = [] := List.length_eq_zero_iff.1 (by omega)
      rw [this]; rfl
    have HB : Hid (Below w.heap.size w _) := b1
    subst h0
    clear hc hao b1
    unfold ptC at *
    go_enter Tryd.func41, Tryd.ntmps41
    go_wp2
    go_ret
    exact ⟨by rw [HE.out]; rfl, HB.out⟩
  · obtain ⟨x, hx, hxi⟩ := last_of (l := l) (by omega)
    rw [hl] at hxi
    obtain ⟨⟨m, k, c', hr⟩, hf, hm⟩ := hc _ x hxi
    have ha := hao (by omega)
    subst ha
    have hr1 : (w.alloc (.cells (ptC lay f yn (.slice yo yk yc)).toArray 65)).rangeAt B ((n - 1) * 4) (ptC x.lay x.frm x.n (.slice m k c')) := fun j v hv => (b1.cell (cell_lt25 (hr j v hv))).trans (hr j v hv)
    have HE : Hid (behB l lay f = (if x.lay && lay then false else x.lay || lay || (x.frm + x.n != f))) := by
      show _ = _
      unfold behB; rw [hx]
    have i0 : ((n : Int) == 0) = false := by rw [beq_eq_false_iff_ne]; omega
    have z1 : IntKind.i64.wrap ((n : Int) - 1) = ((n - 1 : Nat) : Int) := by rw [i64_in _ (by omega) (by omega)]; omega
    have i1 : (0 : Int) <= ((n - 1 : Nat) : Int) := by omega
    have i2 : ((n - 1 : Nat) : Int) < (n : Int) := by omega
    have z2 : IntKind.i64.wrap ((x.frm : Int) + (x.n : Int)) = ((x.frm + x.n : Nat) : Int) := by rw [i64_in _ (by omega) (by omega)]; omega
    obtain ⟨n1, hn1⟩ : ∃ n1, n1 = n - 1 := ⟨_, rfl⟩
    rw [<- hn1] at z1 i1 i2 hr1
    obtain ⟨sm, hsm⟩ : ∃ sm, sm = x.frm + x.n := ⟨_, rfl⟩
    rw [<- hsm] at z2 HE
    clear hc hao hr hx hxi hl hn hn1 hf hm hsm
    generalize x.lay = xl at *
    generalize x.frm = xf at *
    generalize x.n = xn at *
    obtain ⟨XC, hXC⟩ : ∃ XC, XC = ptC xl xf xn (.slice m k c') := ⟨_, rfl⟩
    obtain ⟨YC, hYC⟩ : ∃ YC, YC = ptC lay f yn (.slice yo yk yc) := ⟨_, rfl⟩
    rw [<- hXC, <- hYC] at hr1
    rw [<- hYC] at b1
    rw [<- hYC]
    have lX : XC.length = 4 := by rw [hXC]; rfl
    have oX : Hid (∀ v ∈ XC, v.oneCell' = true) := by rw [hXC]; show ∀ v ∈ ptC xl xf xn (.slice m k c'), _; intro v hv; simp [ptC] at hv; rcases hv with rfl | rfl | rfl | rfl <;> rfl
    have R0 : Hid (Row ((w.alloc (.cells YC.toArray 65)).alloc (.cells zPt.toArray 65)) (w.heap.size + 1) 65 zPt) := Row.at _ _ _ _ _ (by simp) rfl
    have RY : Hid (Row (w.alloc (.cells YC.toArray 65)) w.heap.size 65 YC) := Row.at w _ _ _ _ rfl rfl
    have HY : Hid (YC[0]? = some (.bool lay) /\ YC[1]? = some (.int .i64 (f : Int))) := by rw [hYC]; exact ⟨rfl, rfl⟩
    have HX : Hid (XC[0]? = some (.bool xl) /\ XC[1]? = some (.int .i64 (xf : Int)) /\ XC[2]? = some (.int .i64 (xn : Int))) := by rw [hXC]; exact ⟨rfl, rfl, rfl⟩
    have HB : Hid (Below w.heap.size w (w.alloc (.cells YC.toArray 65))) := b1
    have EE : Hid (((sm : Int) == (f : Int)) = (sm == f)) := by show _ = _; rw [Bool.eq_iff_iff]; simp only [beq_iff_eq]; omega
    clear hXC hYC b1
    cases xl <;> cases lay
    all_goals
      go_enter Tryd.func41, Tryd.ntmps41
      go_wp2_with (first
        | (have hz := hr1; clear hz; refine wpList_load_mid rfl 65 (.tmp 13) rfl B (n1 * 4) rfl XC _ hr1 Tryd.underlying65 rfl (by rw [lX]; kernel_rfl) ?_; clear hr1)
        | (have hz := R0; clear hz; refine wpList_store_Row rfl 65 (.tmp 5) (.tmp 14) rfl (w.heap.size + 1) 65 0 zPt XC R0.out (by rw [lX]; exact Nat.le_refl _) rfl rfl (by rw [lX]; kernel_rfl) oX.out ?_; intro w3 hr3 hs3; clear R0; have r3 := row_whole hr3 (by rw [lX]; exact Nat.le_refl _); have q3 := (RY.out.alloc (.cells zPt.toArray 65)).but hs3 (by omega); have c0 := r3.cell 0 _ HX.out.1; have c1 := r3.cell 1 _ HX.out.2.1; have c2 := r3.cell 2 _ HX.out.2.2; have d0 := q3.cell 0 _ HY.out.1; have d1 := q3.cell 1 _ HY.out.2; have HB3 : Hid (Below w.heap.size w w3) := hs3.below (HB.out.alloc HB.out.size _) (by omega); clear hr3 hs3 r3 q3))
    all_goals
      go_ret
      refine ⟨?_, HB3.out⟩
      rw [HE.out]
      first | rfl | (simp; done) | (simp; unfold bne; rw [EE.out])
end Go.Proofs.YtplpoehfdhkhmaaDoor


/-! The document's HMAC, as the reference computes it. -/
namespace Go.Proofs.YtplpoehfdhkhmaaDoor
open Go.RowKit

theorem ref_n (ao : Option Addr) (cap n : Nat) (m : List By) (hn : m.length = n) (sm : List By) (hsm : sha m = sm) (w : World) (hb : IsB w ao m) (hnil : ao = none -> cap = 0) (hm : n <= 140737488353280) :
    Calls Tryd.prog 25 #[.slice ao n cap] w fun e w' => e = .returned (.agg (sm.map B8).toArray) /\ Below w.heap.size w w' := by
  subst hn; subst hsm; exact refOf_any ao cap m w hb hnil hm
theorem row_isb {w : World} {g t : Nat} {l : List By} (h : Row w g t (l.map B8)) : IsB w (some ⟨g, 0, none⟩) l :=
  .inr ⟨g, 0, rfl, fun j v hj => by rw [Nat.zero_add]; exact h.cell j _ (by rw [List.getElem?_map, hj]; rfl)⟩

end Go.Proofs.YtplpoehfdhkhmaaDoor


/-! The reference's patch: start. -/
namespace Go.Proofs.YtplpoehfdhkhmaaDoor
open Go.RowKit
set_option linter.unusedVariables false

/-- A patch's cells. -/
def pxC (old new : List By) (bef aft : Nat) (sl : Value) : List Value := old.map B8 ++ new.map B8 ++ [.int .i64 (bef : Int), .int .i64 (aft : Int), sl]
abbrev z32b : List By := List.replicate 32 0
abbrev zPx : List Value := z32b.map B8 ++ z32b.map B8 ++ [.int .i64 0, .int .i64 0, .slice none 0 0]
theorem pxC_len {old new : List By} {bef aft : Nat} {sl : Value} (ho : old.length = 32) (hn : new.length = 32) : (pxC old new bef aft sl).length = 67 := by simp [pxC, ho, hn]
theorem pxC_one (old new : List By) (bef aft : Nat) (ao : Option Addr) (n c : Nat) : ∀ v ∈ pxC old new bef aft (.slice ao n c), v.oneCell' = true := by
  intro v hv
  simp only [pxC, List.mem_append, List.mem_cons, List.not_mem_nil, or_false] at hv
  rcases hv with (hv | hv) | rfl | rfl | rfl
  · exact B8_one old v hv
  · exact B8_one new v hv
  all_goals rfl
theorem pxC_at {old new : List By} {bef aft : Nat} {sl : Value} (ho : old.length = 32) (hn : new.length = 32) (k : Nat) : (pxC old new bef aft sl)[64 + k]? = [Value.int .i64 (bef : Int), .int .i64 (aft : Int), sl][k]? := by
  unfold pxC
  rw [List.getElem?_append_right (by simp [ho, hn])]
  simp [ho, hn]
theorem pxC_bef {old new : List By} {bef aft : Nat} {sl : Value} (ho : old.length = 32) (hn : new.length = 32) : (pxC old new bef aft sl)[64]? = some (.int .i64 (bef : Int)) := pxC_at ho hn 0
theorem pxC_aft {old new : List By} {bef aft : Nat} {sl : Value} (ho : old.length = 32) (hn : new.length = 32) : (pxC old new bef aft sl)[65]? = some (.int .i64 (aft : Int)) := pxC_at ho hn 1
theorem pxC_sl {old new : List By} {bef aft : Nat} {sl : Value} (ho : old.length = 32) (hn : new.length = 32) : (pxC old new bef aft sl)[66]? = some sl := pxC_at ho hn 2
theorem pxC_old {old new : List By} {bef aft : Nat} {sl : Value} (ho : old.length = 32) (k : Nat) (hk : k < 32) : (pxC old new bef aft sl)[k]? = some (B8 (old.getD k 0)) := by
  unfold pxC
  rw [List.append_assoc, List.getElem?_append_left (by simp [ho, hk]), List.getElem?_map, List.getElem?_eq_getElem (by omega), getD_lt (by omega)]; rfl
theorem pxC_new {old new : List By} {bef aft : Nat} {sl : Value} (ho : old.length = 32) (hn : new.length = 32) (k : Nat) (hk : k < 32) : (pxC old new bef aft sl)[32 + k]? = some (B8 (new.getD k 0)) := by
  unfold pxC
  rw [List.append_assoc, List.getElem?_append_right (by simp [ho]), List.getElem?_append_left (by simp [ho, hn, hk])]
  simp only [List.length_map, ho, Nat.add_sub_cancel_left]
  rw [List.getElem?_map, List.getElem?_eq_getElem (by omega), getD_lt (by omega)]; rfl
theorem pxC_setOld {old new : List By} {bef aft : Nat} {sl : Value} (ho : old.length = 32) (k : Nat) (hk : k < 32) (y : By) : (pxC old new bef aft sl).set k (B8 y) = pxC (old.set k y) new bef aft sl := by
  unfold pxC
  rw [List.append_assoc, List.set_append_left _ _ (by simp [ho, hk]), List.append_assoc, List.map_set]
theorem pxC_setNew {old new : List By} {bef aft : Nat} {sl : Value} (ho : old.length = 32) (hn : new.length = 32) (k : Nat) (hk : k < 32) (y : By) : (pxC old new bef aft sl).set (32 + k) (B8 y) = pxC old (new.set k y) bef aft sl := by
  unfold pxC
  rw [List.append_assoc, List.set_append_right _ _ (by simp [ho]), List.set_append_left _ _ (by simp [ho, hn, hk]), List.append_assoc]
  simp only [List.length_map, ho, Nat.add_sub_cancel_left, List.map_set]
/-- What a call answers: cells, and an error with its place. -/
def ansV (C : List Value) (e a : Nat) : Value := .tuple #[.agg C.toArray, .agg #[.int .i64 (e : Int), .int .i64 (a : Int)]]
def stV (r : RX25) : Value :=
  match r with
  | .error (e, a) => ansV zPx e a
  | .ok x => ansV (pxC x.old x.new x.before x.after (.slice none 0 0)) 0 0
/-- While it is gone through: the two answers' blocks, what must be. -/
structure SW (w W : World) : Prop where
  bel : Below w.heap.size w W
  px : Row W w.heap.size 34 zPx
  wr : Row W (w.heap.size + 1) 37 [.int .i64 0, .int .i64 0]
  mu : Row W (w.heap.size + 2) 5 (hd5.map B8)
theorem SW.keep {w W W2 : World} (h : SW w W) (hb : Below W.heap.size W W2) : SW w W2 :=
  ⟨h.bel.trans (hb.mono h.bel.size), h.px.below hb h.px.lt, h.wr.below hb h.wr.lt, h.mu.below hb h.mu.lt⟩

theorem sE_at (p : List By) (i k : Nat) (h : i < 77) (hk : k = 77 - i) : sE p i k = if i = p.length then some (6, i) else if i < 5 /\ p.getD i 0 ≠ hd5.getD i 0 then some (5, i) else if i = 72 /\ 524288 < num4 (p.drop 69) then some (5, 69) else sE p (i + 1) (77 - (i + 1)) := by
  obtain ⟨m, rfl⟩ : ∃ m, k = m + 1 := ⟨k - 1, by omega⟩
  rw [sE]
  have : m = 77 - (i + 1) := by omega
  rw [this]
theorem hd5_cell {W : World} {g : Nat} (h : Row W g 5 (hd5.map B8)) (q : Nat) (hq : q < 5) : W.cell? ⟨g, q, none⟩ = some (.int .u8 ((hd5.getD q 0).toNat : Int)) := by
  refine h.cell q _ ?_
  rcases (by omega : q = 0 ∨ q = 1 ∨ q = 2 ∨ q = 3 ∨ q = 4) with rfl | rfl | rfl | rfl | rfl <;> rfl
/-- Bytes of which so many are copied. -/
def cpd (src : List By) (i : Nat) : List By := (List.range 32).map fun j => if j < i then src.getD j 0 else 0
theorem cpd_len (src : List By) (i : Nat) : (cpd src i).length = 32 := by simp [cpd]
theorem cpd_zero (src : List By) : cpd src 0 = z32b := by
  apply List.ext_getElem
  · simp [cpd]
  · intro j h1 h2
    simp [cpd]
theorem cpd_set (src : List By) (i : Nat) (h : i < 32) : (cpd src i).set i (src.getD i 0) = cpd src (i + 1) := by
  apply List.ext_getElem
  · simp [cpd]
  · intro j h1 h2
    rw [List.getElem_set]
    simp only [cpd, List.getElem_map, List.getElem_range]
    by_cases e : i = j
    · subst e
      rw [if_pos rfl, if_pos (by omega)]
    · rw [if_neg e]
      by_cases e2 : j < i
      · rw [if_pos e2, if_pos (by omega)]
      · rw [if_neg e2, if_neg (by omega)]
theorem cpd_all (src : List By) (h : 32 <= src.length) : cpd src 32 = src.take 32 := by
  apply List.ext_getElem
  · simp [cpd]; omega
  · intro j h1 h2
    simp [cpd] at h1
    simp only [cpd, List.getElem_map, List.getElem_range, List.getElem_take]
    rw [if_pos h1]
    simp [List.getD, show j < src.length by omega]
theorem sE_none {p : List By} : ∀ (k i : Nat), i + k = 77 -> i <= p.length -> sE p i k = none -> 77 <= p.length
  | 0, i, hk, hi, _ => by omega
  | k + 1, i, hk, hi, h => by
    rw [sE] at h
    by_cases h1 : i = p.length
    · rw [if_pos h1] at h; cases h
    · rw [if_neg h1] at h
      split at h
      · cases h
      · split at h
        · cases h
        · exact sE_none k (i + 1) (by omega) (by omega) h
end Go.Proofs.YtplpoehfdhkhmaaDoor
