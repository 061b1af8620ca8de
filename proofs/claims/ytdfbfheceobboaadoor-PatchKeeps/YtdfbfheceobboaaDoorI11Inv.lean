import Derived.Test.YtdfbfheceobboaaDoorI11Mem
import Derived.SizedLaws
import Derived.WalkKit
import Derived.ProofKit
import Derived.OpenShut
import Derived.ShutString
import Derived.ChangeOld
import Derived.Below
import Derived.Deep.Slices
import Derived.Deep.Strs
import Derived.Test.YtdfbfheceobboaaDoorRefOf
import Derived.BigQuiet
import Derived.Deep.RegionHeld3

/-! Bytes, hashes and rows of single cells that came in, laid open. -/
namespace Go.Proofs.YtdfbfheceobboaaDoor
open Go.ChangeShapes Go.WideShapes Go.ChangeAt Go.RowKit
set_option maxRecDepth 100000

theorem knob : ownKnob Tryd.prog.godebug = none := by kernel_rfl
theorem laidOut : laidOutB Tryd.prog = true := by kernel_rfl
theorem isB_row {W : World} {x : Addr} {len : Nat} {zs : List Int} (hl : len ≤ zs.length) (hcell : ∀ i, i < zs.length → W.cell? (x.add i) = some (.int .u8 (zs.getD i 0))) (hwz : ∀ n ∈ zs, (Lit.int .u8 n).wf = true) :
    ∃ bs : List By, bs.length = len ∧ IsB W (some x) bs := by
  refine ⟨(zs.take len).map (fun z => BitVec.ofNat 8 z.toNat), by simp; omega, ?_⟩
  by_cases h0 : len = 0
  · left; simp [h0]
  · right
    obtain ⟨b, off, spot⟩ := x
    have hc0 := hcell 0 (by omega)
    have hspot : spot = none := by simpa [Addr.add] using World.cell?_spot hc0
    subst hspot
    refine ⟨b, off, rfl, fun j v hj => ?_⟩
    rw [List.getElem?_map, List.getElem?_take] at hj
    split at hj
    · have hjz : j < zs.length := by omega
      rw [List.getElem?_eq_getElem hjz] at hj
      injection hj with hj
      subst hj
      have h1 := hcell j hjz
      rw [Addr.add_mid] at h1
      rw [h1]
      have h2 : zs.getD j 0 = zs[j] := by simp [hjz]
      have h3 := hwz zs[j] (List.getElem_mem hjz)
      have h4 := bounds_u8 h3
      rw [h2]
      unfold B8
      rw [BitVec.toNat_ofNat]
      congr 2
      omega
    · cases hj

theorem open_bytes {H : Type} {enc : TypeId × Value → H} {W : World} {n : Nat} {a : Option Addr} {len cap : Nat} {x : DataW H × List MemPlace}
    (h : DataW.trod enc Tryd.prog W 0 (fun _ => true) true n 22 [.slice a len cap] = some x) (hsz : ∀ k ∈ x.1.weights Tryd.prog 22, k ≤ reachBytes) :
    ∃ bs : List By, bs.length = len ∧ IsB W a bs ∧ (a = none → cap = 0) ∧ len ≤ cap ∧ len ≤ 140737488351232 := by
  rcases open_ints Tryd.underlying22 Tryd.underlying5 (by kernel_rfl) h with ⟨e2, _⟩ | ⟨a', len', cap', zs, e2, _, hlc, hm, hz, hx, hc, hwz⟩
  · injection e2 with e2 _
    injection e2 with e1 e2 e3
    subst e1; subst e2; subst e3
    exact ⟨[], rfl, .inl rfl, fun _ => rfl, Nat.le_refl _, by omega⟩
  · injection e2 with e2 _
    injection e2 with e1 e2 e3
    subst e1; subst e2; subst e3
    simp at hz
    obtain ⟨bs, hbl, isb⟩ := isB_row (len := len) (by omega) hc hwz
    have hw : (zs.length) * Tryd.prog.bytesOf 5 ≤ reachBytes := by
      refine hsz _ ?_
      rw [hx]
      simp [DataW.weights, Tryd.underlying22, lits]
      left
      congr 1
      omega
    rw [show Tryd.prog.bytesOf 5 = 1 by kernel_rfl] at hw
    simp only [reachBytes] at hw
    exact ⟨bs, hbl, isb, (fun e => by cases e), hlc, by omega⟩
section
variable {H : Type} {enc : TypeId × Value → H} {W : World} {n : Nat} {cs : List Value} {x : DataW H × List MemPlace}

end
end Go.Proofs.YtdfbfheceobboaaDoor


/-! Rows of bytes held against each other: the code's, and the document's. -/
namespace Go.Proofs.YtdfbfheceobboaaDoor
open Go.RowKit

theorem bv8_ofInt (x : By) : BitVec.ofInt 8 (x.toNat : Int) = x := by
  rw [BitVec.ofInt_natCast, BitVec.ofNat_toNat, BitVec.setWidth_eq]
theorem bits8_xor (x y : By) : bits .xor .u8 (x.toNat : Int) (y.toNat : Int) = ((x ^^^ y).toNat : Int) := by
  show IntKind.u8.wrap ((BitVec.ofInt 8 (x.toNat : Int) ^^^ BitVec.ofInt 8 (y.toNat : Int)).toNat : Int) = _
  rw [bv8_ofInt, bv8_ofInt, IntKind.wrap_u8']
  have := b8_lt (x ^^^ y)
  omega

theorem IsB.cell {w : World} {ao : Option Addr} {m : List By} (h : IsB w ao m) (j : Nat) (hj : j < m.length) : ∃ B off, ao = some ⟨B, off, none⟩ ∧ w.cell? ⟨B, off + j, none⟩ = some (.int .u8 ((m.getD j 0).toNat : Int)) := by
  rcases h with rfl | ⟨B, off, rfl, hc⟩
  · simp at hj
  · refine ⟨B, off, rfl, ?_⟩
    have := hc j (m.getD j 0) (by rw [List.getD_eq_getElem?_getD, List.getElem?_eq_getElem hj]; rfl)
    exact this

end Go.Proofs.YtdfbfheceobboaaDoor


/-! The document's HMAC on lists of bytes. -/
namespace Go.Proofs.YtdfbfheceobboaaDoor
open Go.RowKit

def kh (k : List By) : List By := if 64 < k.length then sha k else k
/-- A key's block key. -/
def kb (k : List By) : List By := kh k ++ List.replicate (64 - (kh k).length) 0
/-- Bytes, each under exclusive or with one. -/
def tn (l : List By) (x : By) : List By := l.map (· ^^^ x)
end Go.Proofs.YtdfbfheceobboaaDoor


/-! The document's images on lists of bytes. -/
namespace Go.Proofs.YtdfbfheceobboaaDoor
open Go.RowKit

/-- Four bytes of a number, the lowest one first. -/
def le4 (n : Nat) : List By := [BitVec.ofNat 8 n, BitVec.ofNat 8 (n / 256), BitVec.ofNat 8 (n / 65536), BitVec.ofNat 8 (n / 16777216)]
/-- The number of four bytes. -/
def num4 (b : List By) : Nat := (b.getD 0 0).toNat + (b.getD 1 0).toNat * 256 + (b.getD 2 0).toNat * 65536 + (b.getD 3 0).toNat * 16777216
theorem le4_len (n : Nat) : (le4 n).length = 4 := rfl
theorem num4_lt (b : List By) : num4 b < 4294967296 := by
  unfold num4
  have h := fun i => (b.getD i 0).isLt
  have h0 := h 0; have h1 := h 1; have h2 := h 2; have h3 := h 3
  simp only [Nat.reducePow] at h0 h1 h2 h3
  omega
theorem num4_le4 (n : Nat) (h : n < 4294967296) (r : List By) : num4 (le4 n ++ r) = n := by
  simp only [num4, le4, List.cons_append, List.getD_cons_zero, List.getD_cons_succ, BitVec.toNat_ofNat]
  omega
end Go.Proofs.YtdfbfheceobboaaDoor


/-! The document's patch, as data. -/
namespace Go.Proofs.YtdfbfheceobboaaDoor
open Go.RowKit
set_option linter.unusedVariables false

/-- A part: a copy, or a lay. -/
structure Pt where
  lay : Bool
  frm : Nat
  n : Nat
  b : List By
/-- A patch, taken apart. -/
structure PX where
  old : List By
  new : List By
  before : Nat
  after : Nat
  l : List Pt
/-- What reading tells: an error and its place, or a patch. -/
abbrev RX25 := Except (Nat × Nat) PX
def hd5 : List By := [80#8, 67#8, 80#8, 84#8, 1#8]
/-- The first 77 bytes, from a place on. -/
def sE (p : List By) : Nat → Nat → Option (Nat × Nat)
  | _, 0 => none
  | i, k + 1 => if i = p.length then some (6, i) else if i < 5 ∧ p.getD i 0 ≠ hd5.getD i 0 then some (5, i) else if i = 72 ∧ 524288 < num4 (p.drop 69) then some (5, 69) else sE p (i + 1) k
def startR (p : List By) : RX25 :=
  match sE p 0 77 with
  | some (e, a) => .error (e, a)
  | none => if 524288 < num4 (p.drop 73) then .error (5, 73) else .ok ⟨(p.drop 5).take 32, (p.drop 37).take 32, num4 (p.drop 69), num4 (p.drop 73), []⟩
/-- May a part stand behind others? -/
def behB (l : List Pt) (lay : Bool) (f : Nat) : Bool :=
  match l.getLast? with
  | none => true
  | some x => if x.lay && lay then false else x.lay || lay || (x.frm + x.n != f)
/-- Where a part's own bytes begin, by its first byte. -/
def nxt (c a : Nat) : Nat := if c = 2 then a + 5 else a + 9
def frmOf (p : List By) (c a : Nat) : Nat := if c = 2 then 0 else num4 (p.drop (a + 1))
def partR (bef aft : Nat) (l : List Pt) (p : List By) (a hv : Nat) : Except (Nat × Nat) (Pt × Nat) :=
  if p.length ≤ a then .error (6, p.length)
  else if (p.getD a 0).toNat ≠ 1 ∧ (p.getD a 0).toNat ≠ 2 then .error (5, a)
  else if p.length < nxt (p.getD a 0).toNat a then .error (6, p.length)
  else if num4 (p.drop (nxt (p.getD a 0).toNat a - 4)) < 1 ∨ aft < hv + num4 (p.drop (nxt (p.getD a 0).toNat a - 4)) ∨ ((p.getD a 0).toNat = 1 ∧ bef < frmOf p (p.getD a 0).toNat a + num4 (p.drop (nxt (p.getD a 0).toNat a - 4))) ∨ behB l (decide ((p.getD a 0).toNat = 2)) (frmOf p (p.getD a 0).toNat a) = false then .error (5, a)
  else if (p.getD a 0).toNat = 2 then
    if p.length < a + 5 + num4 (p.drop (a + 1)) then .error (6, p.length)
    else .ok (⟨true, 0, num4 (p.drop (a + 1)), (p.drop (a + 5)).take (num4 (p.drop (a + 1)))⟩, a + 5 + num4 (p.drop (a + 1)))
  else .ok (⟨false, num4 (p.drop (a + 1)), num4 (p.drop (a + 5)), []⟩, a + 9)
/-- Part by part. -/
def readL (bef aft : Nat) (p : List By) : Nat → Nat → Nat → List Pt → Except (Nat × Nat) (List Pt × Nat)
  | 0, a, _, l => .ok (l, a)
  | k + 1, a, hv, l => if aft ≤ hv then .ok (l, a) else
    match partR bef aft l p a hv with
    | .error e => .error e
    | .ok (y, nx) => readL bef aft p k nx (hv + y.n) (l ++ [y])
def readR (p : List By) : RX25 :=
  match startR p with
  | .error (e, a) => .error (e, a)
  | .ok x =>
    match readL x.before x.after p x.after 77 0 [] with
    | .error (e, a) => .error (e, a)
    | .ok (l, a) => if a < p.length then .error (7, a) else .ok { x with l := l }
/-- What parts tell of a row. -/
def ptB (old : List By) (y : Pt) : List By := if y.lay then y.b else (old.drop y.frm).take y.n
def tells (l : List Pt) (old : List By) : List By := l.flatMap (ptB old)
def laidN (l : List Pt) : Nat := (l.map fun y => if y.lay then y.n else 0).sum

end Go.Proofs.YtdfbfheceobboaaDoor


/-! A drawn region by an invariant over what has come up: one step an operation, whatever the number of orders. -/
namespace Go.Proofs.YtdfbfheceobboaaDoor
open Go.RowKit

def onesOf (o : Oper) : List Nat := (o.after.toList.filter (Region.binds .any)).map (·.on)

/-- Each operation waits for earlier ones alone. -/
def dagB (ops : Array Oper) : Bool := (List.range ops.size).all fun i => ((ops[i]?).map fun o => (onesOf o).all (· < i)).getD true

/-- 'L' with number 'i' besides. -/
def upd (L : Nat → Bool) (i : Nat) : Nat → Bool := fun j => if j = i then true else L j

/-- One operation keeps the invariant. -/
def StepI (P : Program) (ops : Array Oper) (I : (Nat → Bool) → Act → World → Prop) (Q : Exit → Act → World → Prop) (i : Nat) (o : Oper) : Prop :=
  ∀ (L : Nat → Bool) (a : Act) (w : World), I L a w → L i = false → (∀ j ∈ onesOf o, L j = true) → ∀ K : Act → World → Prop, Shut (∀ a' w', I (upd L i) a' w' → K a' w') →
    if Region.wanted o (yielded ops a.tmps) = true then Oper.wp P o a w K Q else K (a.put o.dst undef) w

/-- All operations of a list, the first of them number 'n'. -/
def StepsI (P : Program) (ops : Array Oper) (I : (Nat → Bool) → Act → World → Prop) (Q : Exit → Act → World → Prop) : Nat → List Oper → Prop
  | _, [] => True
  | n, o :: r => StepI P ops I Q n o ∧ StepsI P ops I Q (n + 1) r

theorem StepsI.at {P : Program} {ops : Array Oper} {I : (Nat → Bool) → Act → World → Prop} {Q : Exit → Act → World → Prop} : ∀ (l : List Oper) (n : Nat), StepsI P ops I Q n l → ∀ (i : Nat) (o : Oper), l[i]? = some o → StepI P ops I Q (n + i) o
  | [], _, _, _, _, h => by simp at h
  | x :: r, n, hs, 0, o, h => by
    simp at h; subst h; exact hs.1
  | x :: r, n, hs, i + 1, o, h => by
    have := StepsI.at r (n + 1) hs.2 i o (by simpa using h)
    rw [show n + (i + 1) = n + 1 + i by omega]; exact this

def asL (l : Array Bool) : Nat → Bool := fun j => l.getD j false

theorem asL_set (l : Array Bool) (i : Nat) (h : i < l.size) : asL (l.setIfInBounds i true) = upd (asL l) i := by
  funext j
  unfold asL upd
  by_cases hj : j = i
  · subst hj; simp [h]
  · rw [if_neg hj, getD_set_ne false (fun e => hj e.symm)]

theorem wp_region_inv {P : Program} {ops : Array Oper} {Q : Exit → Act → World → Prop} {id : Nat} {a : Act} {w : World} (I : (Nat → Bool) → Act → World → Prop) (hm : P.follows .mixedOrders = true) (hd : dagB ops = true)
    (h0 : I (fun _ => false) a w.drew) (hs : StepsI P ops I Q 0 ops.toList) (he : ∀ L a' w', (∀ j, j < ops.size → L j = true) → I L a' w' → Q .normal a' w') : (Code.region id ops true).wp P Q a w := by
  have hall : ∀ l : Array Bool, l.size = ops.size → Region.ready .any ops l = [] → ∀ j, j < ops.size → asL l j = true := by
    intro l hl hr j
    induction j using Nat.strongRecOn with
    | _ j ih =>
      intro hj
      cases hb : asL l j with
      | true => rfl
      | false =>
        exfalso
        have hm : j ∈ Region.ready .any ops l := by
          rw [mem_ready]
          refine ⟨?_, ops[j], Array.getElem?_eq_getElem hj, fun e hme hbe => ?_⟩
          · unfold asL at hb
            simp [hl, hj] at hb ⊢; exact hb
          · have h1 : e.on ∈ onesOf ops[j] := by
              unfold onesOf
              exact List.mem_map.2 ⟨e, List.mem_filter.2 ⟨by simpa using hme, hbe⟩, rfl⟩
            unfold dagB at hd
            rw [List.all_eq_true] at hd
            have h2 := hd j (List.mem_range.2 hj)
            rw [Array.getElem?_eq_getElem hj] at h2
            simp only [Option.map_some, Option.getD_some, List.all_eq_true, decide_eq_true_eq] at h2
            have h3 := h2 _ h1
            exact ih _ h3 (by omega)
        rw [hr] at hm; cases hm
  have hmain : ∀ (fuel : Nat) (l : Array Bool) (a : Act) (w : World), l.size = ops.size → (l.toList.filter (! ·)).length ≤ fuel → I (asL l) a w → wpAny P .any ops Q fuel l a w := by
    intro fuel
    induction fuel with
    | zero =>
      intro l a w hl hc hI
      have hr : Region.ready .any ops l = [] := by
        apply List.eq_nil_iff_forall_not_mem.2
        intro j hj
        obtain ⟨h1, o, ho, _⟩ := mem_ready.1 hj
        have hlt : j < l.size := by rw [hl]; exact (Array.getElem?_eq_some_iff.1 ho).1
        have : l[j] ∈ l.toList.filter (! ·) := List.mem_filter.2 ⟨by simp, by simp [hlt] at h1; simp [h1]⟩
        have h2 := List.length_pos_of_mem this
        omega
      exact ⟨hr, he _ _ _ (hall l hl hr) hI⟩
    | succ fuel ih =>
      intro l a w hl hc hI
      refine ⟨fun hr => he _ _ _ (hall l hl hr) hI, fun i hi => ?_⟩
      obtain ⟨h1, o, ho, h2⟩ := mem_ready.1 hi
      have hlt : i < l.size := by rw [hl]; exact (Array.getElem?_eq_some_iff.1 ho).1
      have hfi : asL l i = false := by unfold asL; simp [hlt] at h1 ⊢; exact h1
      have hst := StepsI.at ops.toList 0 hs i o (by simpa using ho)
      rw [Nat.zero_add] at hst
      refine wpOp_step ho fun K hK => hst (asL l) a w hI hfi ?_ K ?_
      · intro j hj
        unfold onesOf at hj
        obtain ⟨e, hme, rfl⟩ := List.mem_map.1 hj
        obtain ⟨h3, h4⟩ := List.mem_filter.1 hme
        exact h2 e (by simpa using h3) h4
      · intro a' w' hI'
        refine hK a' w' (ih _ a' w' (by simpa using hl) ?_ (by rw [asL_set l i hlt]; exact hI'))
        have h5 : l[i] = false := by simp [hlt] at h1; exact h1
        have h6 : ((l.setIfInBounds i true).toList.filter (! ·)).length + 1 ≤ (l.toList.filter (! ·)).length := by
          rw [Array.toList_setIfInBounds]
          clear hI' hK hI hst hfi hc hl h2
          have h7 : l.toList[i]? = some false := by simp [hlt, h5]
          generalize l.toList = ll at h7 ⊢
          clear hi h1 h5 hlt ho
          induction ll generalizing i with
          | nil => simp at h7
          | cons y r ihl =>
            cases i with
            | zero => simp at h7; subst h7; simp
            | succ i =>
              have := ihl i (by simpa using h7)
              cases y <;> simp at this ⊢ <;> omega
        omega
  refine wp_region_any hm ?_
  refine hmain _ _ _ _ (by simp) ?_ ?_
  · refine Nat.le_trans (List.length_filter_le _ _) (by simp)
  · have : asL (Array.replicate ops.size false) = fun _ => false := by
      funext j; unfold asL
      by_cases hj : j < ops.size <;> simp [hj]
    rw [this]; exact h0

/-- The invariant, once for each operation. -/
theorem StepsI.cons {P : Program} {ops : Array Oper} {I : (Nat → Bool) → Act → World → Prop} {Q : Exit → Act → World → Prop} {n : Nat} {o : Oper} {r : List Oper} (h : StepI P ops I Q n o) (hr : StepsI P ops I Q (n + 1) r) : StepsI P ops I Q n (o :: r) := ⟨h, hr⟩
theorem StepsI.nil {P : Program} {ops : Array Oper} {I : (Nat → Bool) → Act → World → Prop} {Q : Exit → Act → World → Prop} {n : Nat} : StepsI P ops I Q n [] := trivial
end Go.Proofs.YtdfbfheceobboaaDoor
